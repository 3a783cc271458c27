/- The row of Prints, lifted, and its card. -/
import Derived.Test.YtidakhhekofkoaaGreatDoorJ06
import Derived.Test.YtidakhhekofkoaaGreatDoorJ24
set_option linter.unusedSimpArgs false
set_option maxRecDepth 100000
namespace Go.Proofs.YtidakhhekofkoaaGreatDoor
open Go.ChangeShapes Go.WideShapes Go.ChangeAt Go.RowKit Go.Deep
theorem spellCells:Tryz.prog.cellsOf 309=2:=by kernel_rfl
theorem gv_of {laid:List (String × DataW Unit)} {W:World} (h:laidMet Tryz.prog laid W) (xf xw xs:String × DataW Unit) (hf:xf∈laid) (hw:xw∈laid) (hs:xs∈laid)
  (gf:Tryz.prog.globalNamed xf.1=some 0) (gw:Tryz.prog.globalNamed xw.1=some 2) (gs:Tryz.prog.globalNamed xs.1=some 1)
  (df:xf.2= .agg (fsignsL.map fun x=> .lit (.string x))) (dw:xw.2= .agg (wordsL.map fun x=> .agg [.lit (.string x.1),.lit (.int .i64 x.2)])) (ds:xs.2= .agg (rsignsL.map fun x=> .agg [.lit (.string x.1),.lit (.int .i64 x.2)])):GVF W:=by
 obtain ⟨ps,hl,_⟩:=h
 refine ⟨?_, ?_, ?_⟩
 ·obtain ⟨g,t,cs,fuel,p,hg,ht,hv,hd⟩:=laid_mem hl xf hf
  obtain rfl:=Option.some.inj (gf.symm.trans hg)
  obtain rfl:=Option.some.inj ((show (Tryz.prog.globals[0]?).map (·.type)=some 273 by kernel_rfl).symm.trans ht)
  rw [df] at hd
  have e:=strs_cells Tryz.underlying273 (by kernel_rfl) hd
  obtain ⟨t',m',hb⟩:=var_blk hg hv
  have e2:cs=fsignsC:=by rw [←Array.toList_inj,e];rfl
  exact ⟨t',m',e2▸hb⟩
 ·obtain ⟨g,t,cs,fuel,p,hg,ht,hv,hd⟩:=laid_mem hl xw hw
  obtain rfl:=Option.some.inj (gw.symm.trans hg)
  obtain rfl:=Option.some.inj ((show (Tryz.prog.globals[2]?).map (·.type)=some 321 by kernel_rfl).symm.trans ht)
  rw [dw] at hd
  have e:=pairs_cells Tryz.underlying321 (by kernel_rfl) spellCells hd
  obtain ⟨t',m',hb⟩:=var_blk hg hv
  have e2:cs=wordsC:=by rw [←Array.toList_inj,e];rfl
  exact ⟨t',m',e2▸hb⟩
 ·obtain ⟨g,t,cs,fuel,p,hg,ht,hv,hd⟩:=laid_mem hl xs hs
  obtain rfl:=Option.some.inj (gs.symm.trans hg)
  obtain rfl:=Option.some.inj ((show (Tryz.prog.globals[1]?).map (·.type)=some 310 by kernel_rfl).symm.trans ht)
  rw [ds] at hd
  have e:=pairs_cells Tryz.underlying310 (by kernel_rfl) spellCells hd
  obtain ⟨t',m',hb⟩:=var_blk hg hv
  have e2:cs=rsignsC:=by rw [←Array.toList_inj,e];rfl
  exact ⟨t',m',e2▸hb⟩
def cellsD:DataW Unit→List Value
 | .lit l=>[l.value]
 | .agg xs=>xs.flatMap fun x=>match x with
  | .lit l=>[l.value]
  | .agg ys=>ys.flatMap fun y=>match y with
   | .lit l=>[l.value]
   |_=>[]
  |_=>[]
 |_=>[]
def layH (P:Program) (h:Array Obj) (x:String × DataW Unit):Array Obj:=
 match P.globalNamed x.1 with
 |some g=>h.modify g fun
  | .cells _ t frozen=> .cells (cellsD x.2).toArray t frozen
  |o=>o
 |none=>h
end Go.Proofs.YtidakhhekofkoaaGreatDoor
