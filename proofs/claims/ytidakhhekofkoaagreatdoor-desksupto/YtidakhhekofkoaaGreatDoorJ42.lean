/- The program's readBackward. -/
import Derived.Test.YtidakhhekofkoaaGreatDoorJ34
import Derived.Test.YtidakhhekofkoaaGreatDoorJ07
import Derived.BigQuiet
import Derived.Deep.RegionWith
import Derived.Test.YtidakhhekofkoaaGreatDoorJ15
import Derived.Test.YtidakhhekofkoaaGreatDoorJ09
import Derived.Test.YtidakhhekofkoaaGreatDoorJ10
import Derived.Deep.RegionHeld
import Derived.Deep.AppendLies
import Derived.Test.YtidakhhekofkoaaGreatDoorJ18
import Derived.Test.YtidakhhekofkoaaGreatDoorJ11
import Derived.Deep.DeepCutAuto
import Derived.Test.YtidakhhekofkoaaGreatDoorJ17
import Derived.Laws.EntriesVeiled
import Derived.Test.YtidakhhekofkoaaGreatDoorJ01
import Derived.Shelf.Strings.Builder1
import Derived.Shelf.Strings.Builder2
import Derived.Shelf.Strings.OnBuilder
import Derived.Test.YtidakhhekofkoaaGreatDoorProg
import Derived.Test.YtidakhhekofkoaaGreatDoorJ28
import Derived.Laws.IdiomStrings
set_option linter.unusedSimpArgs false
set_option linter.unusedVariables false
namespace Go.Proofs.YtidakhhekofkoaaGreatDoor
open Go.RowKit Go.Deep Go.Maps
theorem numb_le {σ:Type} [DecidableEq σ] (l:List σ) (s:σ):(numb l s).1.length≤l.length+1:=by
 unfold numb
 split
 ·show l.length≤_;omega
 ·simp
theorem rowN_le {σ:Type} [DecidableEq σ] (st:σ→Nat→σ) (s:σ): ∀(ns:List Nat) (l:List σ),(rowN st s ns l).1.length≤l.length+ns.length
 |[],l=>by simp [rowN]
 |a::ns,l=>by
  rw [rowN]
  have h1:=rowN_le st s ns (numb l (st s a)).1
  have h2:=numb_le l (st s a)
  simp only [List.length_cons]
  omega
theorem mkInts (w:World) (n:Nat) (hn:n≤10000000000):(Instr.makeSlice 33 (.int .i64 (n:Int)) (.int .i64 (n:Int))).run Tryz.prog w= .ok (.slice (some ⟨w.heap.size,0,none⟩) n n) (w.alloc (.cells (Array.replicate n (.int .i64 0)) 3)):=by
 obtain ⟨i0,hi0,hz0,hz1,hz2⟩:=info_parts Tryz.infoI64
 exact make_run (P:=Tryz.prog) w 33 3 i0 (.int .i64 0) Tryz.underlying33 hi0 hz0 hz1 rfl (by omega) n hn
def setC (ms:List (List Bool)):List Value:=ms.map fun b=>Value.string (setS b)
theorem setC_app (l r:List (List Bool)):setC (l++r)=setC l++setC r:=by unfold setC;rw [List.map_append]
theorem sets_len {tw:List (List Nat)} {acts:List Nat} {s0:List Bool} {k:Nat} {ms:List (List Bool)} {rows:List (List Nat)} (h:Bfs (setB tw) acts s0 k ms rows) (h0:s0.length=tw.length): ∀b∈ms,b.length=tw.length:=fun b hb=>by
 obtain ⟨j,hj⟩:=List.mem_iff_getElem?.1 hb
 cases j with
 |zero=>
  rw [h.first] at hj
  cases hj
  exact h0
 |succ j=>
  obtain ⟨_,_,_,_,_,a,_,e⟩:=h.met j b hj
  rw [e]
  unfold setB
  rw [List.length_map]
theorem tw_ok {π:Type} [DecidableEq π] {ah:π→Nat→π} {n:Nat} {p0:π} {l:List π} {tw:List (List Nat)} (h:Bfs ah (List.range n) p0 l.length l tw): ∀r∈tw,r.length=n∧ ∀x∈r,x<tw.length:=fun r hr=>by
 obtain ⟨i,hi⟩:=List.mem_iff_getElem?.1 hr
 have htl:tw.length=l.length:=h.len
 have hil:i<l.length:=by have:=(List.getElem?_eq_some_iff.1 hi).1;omega
 obtain ⟨r',r1,r2,r3⟩:=h.row i l[i] hil (List.getElem?_eq_getElem hil)
 rw [hi] at r1
 cases r1
 rw [List.length_range] at r2
 refine ⟨r2,fun x hx=> ?_⟩
 obtain ⟨q,hq⟩:=List.mem_iff_getElem?.1 hx
 have hql:q<n:=by have:=(List.getElem?_eq_some_iff.1 hq).1;omega
 obtain ⟨m,m1,m2⟩:=r3 q q (List.getElem?_range hql)
 rw [hq] at m1
 cases m1
 have:=(List.getElem?_eq_some_iff.1 m2).1
 omega
end Go.Proofs.YtidakhhekofkoaaGreatDoor
namespace Go.Proofs.YtidakhhekofkoaaGreatDoor
open Go.RowKit Go.Deep
def okG:List Value→Value
 |[]=> .int .i64 5
 |_=> .int .i64 0
end Go.Proofs.YtidakhhekofkoaaGreatDoor
namespace Go.Proofs.YtidakhhekofkoaaGreatDoor
open Rt
open Go.RowKit Go.Deep
theorem RightT.small {t:Tb} (h:RightT t):t.acts.length≤1000∧t.nx.length≤1000∧t.fl.length≤1000∧ ∀r∈t.nx,r.length≤1000:=by
 have h1:=h.acts.n6
 have h2:=h.n100
 have h3:=h.fl
 exact ⟨by omega,by omega,by omega,fun r hr=>by have:=(h.rs r hr).1;omega⟩
def DecT (t:Tb) (w w':World) (e:Ending):Prop:= ∃ao fo no ac fc nc rv,e= .returned (.tuple #[.agg #[.slice ao t.acts.length ac,.slice fo t.fl.length fc,.slice no t.nx.length nc],.int .i64 0])∧TbW w' w.heap.size (.slice ao t.acts.length ac) (.slice fo t.fl.length fc) (.slice no t.nx.length nc) t rv∧RightT t∧Below w.heap.size w w'
theorem DecT.of {t:Tb} {w w':World} {e:Ending} {ty:List Value→Value} (hty:ty [.bool true]= .int .i64 0) (hR:RightT t) (h:DecP ty w (some t) w' e):DecT t w w' e:=by
 obtain ⟨hb,A,F,X,rv,he,htab⟩:=h
 obtain ⟨ao,ac,rfl⟩:=owns_val htab.acts
 obtain ⟨fo,fc,rfl⟩:=owns_val htab.fl
 obtain ⟨no,nc,rfl⟩:=owns_val htab.nx
 rw [hty] at he
 exact ⟨ao,fo,no,ac,fc,nc,rv,he,htab,hR,hb⟩
end Go.Proofs.YtidakhhekofkoaaGreatDoor
