/- The row of Traces and its card: a script is opened, its lists and their sizes. -/
import Derived.Test.YtidakhhekofkoaaGreatDoorJ39
import Derived.Test.YtidakhhekofkoaaGreatDoorJ15
import Derived.Test.YtidakhhekofkoaaGreatDoorJ26
set_option linter.unusedSimpArgs false
set_option maxRecDepth 100000
namespace Go.Proofs.YtidakhhekofkoaaGreatDoor
open Go.ChangeShapes Go.WideShapes Go.ChangeAt Go.RowKit Go.Deep
section
variable {H : Type} {enc : TypeId × Value → H}
end
theorem ints_cells {w:World} {base:Nat} {sp:Nat→Bool} {held:Bool} {fuel:Nat} {t:TypeId} {n:Nat} {cs:List Value} {l:List Int} {p:List MemPlace}
  (ht:Tryz.prog.underlying t=some (.array n 345)) (hct:Tryz.prog.cellsOf t=n)
  (h:DataW.trod (fun _=>()) Tryz.prog w base sp held fuel t cs=some (.agg (l.map fun x=> .lit (.int .u64 x)),p)):cs=l.flatMap fun x=>[.int .u64 x]:=by
 obtain ⟨h1,h2,h3⟩:=arr_cells ht (show Tryz.prog.cellsOf 345=1 by kernel_rfl) (by rw [hct,Nat.mul_one]) h
 refine chunks (k:=1) _ (fun _=>rfl) l cs (by rw [h1];simp at h2;rw [h2]) (fun i x hx=> ?_)
 obtain ⟨f,q,hf⟩:=h3 i (.lit (.int .u64 x)) (by simp [hx])
 obtain ⟨s,e1,e2,_⟩:=DataW.trod_int Tryz.underlying345 hf
 rw [e1]
 have:x=s:=by simpa using congrArg Prod.fst e2
 rw [this]
theorem tab_of {laid:List (String × DataW Unit)} {W:World} (h:laidMet Tryz.prog laid W) (x:String × DataW Unit) (hx:x∈laid) (hn:x.1= "internal/strconv.uint64pow10") (hd:x.2= .agg (Lib.pow10Tab.map fun x=> .lit (.int .u64 x))):Lib.TabIs Tryz.prog W "internal/strconv.uint64pow10" .u64 Lib.pow10Tab:=by
 obtain ⟨ps,hl,_⟩:=h
 obtain ⟨g,t,cs,fuel,p,hg,ht,hv,hdd⟩:=laid_mem hl x hx
 rw [hn] at hg hv
 obtain rfl:=Option.some.inj (tab_glob.symm.trans hg)
 obtain rfl:=Option.some.inj ((show (Tryz.prog.globals[4]?).map (·.type)=some 370 by kernel_rfl).symm.trans ht)
 rw [hd] at hdd
 have e:=ints_cells Tryz.underlying370 (by kernel_rfl) hdd
 unfold Lib.TabIs
 rw [hv]
 congr 1
 rw [←Array.toList_inj,e]
 exact List.map_eq_flatMap.symm
end Go.Proofs.YtidakhhekofkoaaGreatDoor
