/- The listed variables are met: checked in one pass. -/
import Derived.Test.YtidakhhekofkoaaGreatDoorJ03
import Derived.LaidLaws
namespace Go.Proofs.YtidakhhekofkoaaGreatDoor
open Go.RowKit
def plKey:MemPlace→Nat
 | .cell b off=>b * 128+off
 | .map b=>b * 128+127
def freshB:Nat→List Nat→Bool
 |_,[]=>true
 |acc,k::r=>Nat.beq (Nat.land acc (2^k)) 0&&freshB (Nat.lor acc (2^k)) r
theorem freshB_ok: ∀(l:List Nat) (acc:Nat),freshB acc l=true→l.Nodup∧ ∀k∈l,acc.testBit k=false
 |[],_,_=>⟨List.Pairwise.nil,fun k hk=>(List.not_mem_nil hk).elim⟩
 |k::r,acc,h=>by
  rw [freshB,Bool.and_eq_true] at h
  obtain ⟨h1,h2⟩:=h
  obtain ⟨h3,h4⟩:=freshB_ok r _ h2
  have hk:acc.testBit k=false:=by
   have e:=Nat.eq_of_beq_eq_true h1
   have e2:(acc&&&2^k).testBit k=(0:Nat).testBit k:=congrArg (fun x=>x.testBit k) e
   rw [Nat.testBit_and,Nat.testBit_two_pow_self,Bool.and_true,Nat.zero_testBit] at e2
   exact e2
  have h5: ∀x∈r,(acc|||2^k).testBit x=false:=h4
  refine ⟨List.Pairwise.cons (fun x hx e=> ?_) h3,fun x hx=> ?_⟩
  ·have:=h5 x hx
   rw [←e,Nat.testBit_or,Nat.testBit_two_pow_self,Bool.or_true] at this
   cases this
  ·rcases List.mem_cons.1 hx with rfl|hx
   ·exact hk
   ·have:=h5 x hx
    rw [Nat.testBit_or] at this
    exact (Bool.or_eq_false_iff.1 this).1
theorem laidMet_lin {P:Program} {w:World} {l:List (String × DataW Unit)} (fuel:Nat) (h:(DataW.laidRun P w fuel (l.map (·.1))).map (·.1)=some l)
  (hr:(DataW.laidRun P w fuel (l.map (·.1))).map (fun x=>freshB 0 (x.2.map plKey)&&laidRowsB P w x.2)=some true):laidMet P l w:=by
 cases hx:DataW.laidRun P w fuel (l.map (·.1)) with
 |none=>simp [hx] at h
 |some x=>
  obtain ⟨l',ps⟩:=x
  simp only [hx,Option.map_some,Option.some.injEq] at h hr
  subst h
  simp only [Bool.and_eq_true] at hr
  have hn:ps.Nodup:=by
   have:=(freshB_ok _ _ hr.1).1
   exact List.Pairwise.imp (fun {a b} hab e=>hab (by rw [e])) (List.pairwise_map.1 this)
  exact laidMet_of_run fuel hx (decide_eq_true hn) hr.2
end Go.Proofs.YtidakhhekofkoaaGreatDoor
