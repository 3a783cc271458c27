/- The program's sets of places: has, empty, flags, keeping, behind. -/
import Derived.Test.YtidakhhekofkoaaGreatDoorJ16
import Derived.Test.YtidakhhekofkoaaGreatDoorJ18
import Derived.Test.YtidakhhekofkoaaGreatDoorJ07
import Derived.BigQuiet
import Derived.Deep.RegionWith
import Derived.Test.YtidakhhekofkoaaGreatDoorJ15
import Derived.Test.YtidakhhekofkoaaGreatDoorJ09
import Derived.Test.YtidakhhekofkoaaGreatDoorJ10
import Derived.Deep.RegionHeld
import Derived.Deep.AppendLies
import Derived.Test.YtidakhhekofkoaaGreatDoorJ11
import Derived.Deep.DeepCutAuto
import Derived.Shelf.Strings.Search3
import Derived.Test.YtidakhhekofkoaaGreatDoorProg
import Derived.Laws.IdiomStrings
import Derived.Lib.IndexAny
set_option linter.unusedSimpArgs false
set_option linter.unusedVariables false
namespace Go.Proofs.YtidakhhekofkoaaGreatDoor
open Go.RowKit Go.Deep
def bit8 (x:Bool):UInt8:=if x=true then 1 else 0
theorem bit8_nat (x:Bool):((bit8 x).toNat:Int)=if x=true then 1 else 0:=by cases x<;>rfl
def setS (b:List Bool):ByteArray:=⟨(b.map bit8).toArray⟩
theorem setS_list (b:List Bool):(setS b).data.toList=b.map bit8:=by unfold setS;simp
theorem setS_size (b:List Bool):(setS b).size=b.length:=by rw [←size_data,setS_list,List.length_map]
theorem bit8_inj {x y:Bool} (h:bit8 x=bit8 y):x=y:=by cases x<;>cases y<;>first|rfl|(revert h;decide)
theorem setS_inj {a b:List Bool} (h:setS a=setS b):a=b:=by
 have:=congrArg (fun s=>s.data.toList) h
 simp only [setS_list] at this
 exact (List.map_inj_right (fun _ _ e=>bit8_inj e)).1 this
theorem setS_at {b:List Bool} {k:Nat} (hk:k<(setS b).size) {x:Bool} (h:b[k]? =some x):((setS b)[k].toNat:Int)=if x=true then 1 else 0:=by
 have e:(setS b).data.toList[k]? =some (setS b)[k]:=by
  rw [List.getElem?_eq_getElem (by rw [size_data];exact hk)]
  rfl
 rw [setS_list,List.getElem?_map,h] at e
 have e':bit8 x=(setS b)[k]:=Option.some.inj e
 rw [←e',bit8_nat]
def bitC (b:List Bool):Array Value:=(b.map fun x=>Value.int .u8 ((bit8 x).toNat:Int)).toArray
theorem bitC_at {b:List Bool} {k:Nat} {x:Bool} (h:b[k]? =some x):(bitC b)[k]? =some (.int .u8 ((bit8 x).toNat:Int)):=by
 unfold bitC
 rw [List.getElem?_toArray,List.getElem?_map,h]
 rfl
theorem bitC_set (b:List Bool) (k:Nat) (x:Bool):(bitC b).setIfInBounds k (.int .u8 ((bit8 x).toNat:Int))=bitC (b.set k x):=by
 unfold bitC
 rw [List.setIfInBounds_toArray,List.map_set]
theorem bitC_zero (n:Nat):bitC (List.replicate n false)=Array.replicate n (.int .u8 0):=by unfold bitC;simp [bit8]
def bitsTo (b:List Bool) (k:Nat):List Bool:=b.take k++List.replicate (b.length - k) false
theorem bitsTo_len {b:List Bool} {k:Nat} (hk:k≤b.length):(bitsTo b k).length=b.length:=by unfold bitsTo;simp;omega
theorem bitsTo_all (b:List Bool):bitsTo b b.length=b:=by unfold bitsTo;simp
theorem bitsTo_zero (b:List Bool):bitsTo b 0=List.replicate b.length false:=by unfold bitsTo;simp
theorem bitsTo_succ {b:List Bool} {k:Nat} {x:Bool} (h:b[k]? =some x):bitsTo b (k+1)=(bitsTo b k).set k x:=by
 have hk:=(List.getElem?_eq_some_iff.1 h).1
 unfold bitsTo
 rw [List.take_add_one,h]
 obtain ⟨m,hm⟩: ∃m,b.length - k=m+1:=⟨b.length - k - 1,by omega⟩
 rw [hm,show b.length - (k+1)=m by omega]
 have hl:(b.take k).length=k:=by rw [List.length_take];omega
 rw [List.set_append_right _ _ (by omega),hl,Nat.sub_self,List.replicate_succ,List.set_cons_zero]
 simp
theorem bitsTo_same {b:List Bool} {k:Nat} (h:b[k]? =some false):bitsTo b (k+1)=bitsTo b k:=by
 have hk:=(List.getElem?_eq_some_iff.1 h).1
 unfold bitsTo
 rw [List.take_add_one,h]
 obtain ⟨m,hm⟩: ∃m,b.length - k=m+1:=⟨b.length - k - 1,by omega⟩
 rw [hm,show b.length - (k+1)=m by omega,List.replicate_succ]
 simp
end Go.Proofs.YtidakhhekofkoaaGreatDoor
