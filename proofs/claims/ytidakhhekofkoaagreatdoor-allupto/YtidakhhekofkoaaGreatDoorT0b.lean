import Derived.KernelRfl
import Derived.Below
import Derived.Deep.RegionHeld
import Derived.Test.YtidakhhekofkoaaGreatDoorT0a
set_option linter.all false
namespace Go.Proofs.YtidakhhekofkoaaGreatDoor
def zk{p:Prop}(h:p:=by kernel_rfl):p:=h
end Go.Proofs.YtidakhhekofkoaaGreatDoor
namespace Go.Proofs
open Go
abbrev Ud:=Value
abbrev Uc:=World
abbrev Ub:=ByteArray
abbrev Ua:=Option Nat
abbrev T9:=List UInt8
abbrev T8:=List Int
abbrev T7:=List Bool
abbrev T5:=List Nat
abbrev T3:=Nat × Nat
abbrev T1:=Array Ud
abbrev T0:=List (List Nat)
abbrev TZ:=List Ub
abbrev TX:=Option Addr
abbrev TW:=List Ud
abbrev TT(b:Nat):Option Addr:=some ⟨b,0,none⟩
abbrev TU(b o:Nat):Addr:=⟨b,o,none⟩
abbrev TV:=Value.slice none 0 0
end Go.Proofs
namespace Go.Proofs
def To:=@Nat.le_refl
def XH:=λ{a}=>@Nat.le_refl a
def T':=@if_neg
def Ue:=@Option.some.inj
def Uh:=@if_pos
def Ul:=λ{a b}=>@List.mem_cons_of_mem a b
def Um:=@List.mem_cons_self
def Uq:=@List.getElem?_eq_getElem
def Ur:=@List.length_append
def Uu:=@ByteArray.size_append
def Uv:=@List.getElem?_append_right
def Uw:=@Nat.lt_of_lt_of_le
def Ux:=λ{a}=>@Nat.zero_le a
def Uy:=@decide_eq_false
def UA:=@List.mem_of_getElem?
def UC:=@Bool.false_eq_true
def UD:=@List.Sublist.refl
def UE:=@List.cons_append
def UF:=@List.take_of_length_le
def UG:=@List.getElem?_map
def UH:=@decide_eq_true
def UI:=@List.append_assoc
def UJ:=@List.getElem?_append_left
def UK:=@List.drop_eq_getElem_cons
def UL:=@List.length_map
def UM:=@List.length_cons
def UN:=@Array.getElem?_toList
def UP:=@Nat.le_trans
def US:=@List.not_mem_nil
def UT:=@List.setIfInBounds_toArray
def UU:=@Nat.lt_or_ge
def UX:=@List.drop_eq_nil_of_le
def UY:=@List.getElem_mem
def UZ:=@List.map_cons
def U1:=@List.map_append
def U2:=@Nat.zero_add
def U5:=@List.take_add_one
def U6:=@List.getElem_cons_zero
def U7:=@List.getElem_cons_succ
def U8:=@List.getElem?_take
def U':=@Array.getElem?_eq_getElem
def Va:=@List.getElem_toArray
def Vb:=@List.cons.inj
def Vc:=@List.sublist_cons_self
def Vd:=@List.map_congr_left
def Ve:=@List.set_cons_zero
def Vf:=@List.set_cons_succ
def Vi:=@List.length_take
def Vj:=@ByteArray.data_append
def Vk:=@List.mem_of_mem_drop
def Vl:=@of_decide_eq_true
def Vn:=@List.take_append_drop
def Vo:=@List.append_nil
def Vp:=@List.map_map
def Vs:=@List.getElem?_range
def Vt:=@List.drop_zero
def Vu:=@Bool.and_eq_true
def Vv:=@List.map_nil
def Vx:=@Nat.le_of_eq
def Vy:=@List.nil_append
def Vz:=@Bool.eq_iff_iff
def VA:=@List.getElem?_eq_none
def VB:=@List.flatMap_cons
def VE:=@beq_iff_eq
def VF:=@if_true
def VK:=λ{a b c}=>@List.pairwise_singleton a b c
def VL:=@Bool.true_and
def VM:=@List.getElem?_replicate
def VO:=@Nat.pow_le_pow_right
def VS:=@List.mem_of_mem_take
def VV:=@List.take_append_of_le_length
def VW:=@List.map_id
def VX:=@List.eq_nil_of_length_eq_zero
def V2:=@Nat.not_lt_zero
def V3:=@beq_eq_false_iff_ne
def V4:=@List.Sublist.append
def V8:=@List.map_inj_right
def V':=@List.foldl_append
def Wd:=@List.all_cons
def Wh:=@if_false
def Wi:=@Nat.eq_of_testBit_eq
def Wj:=@List.drop_of_length_le
def Wk:=@Array.toList_inj
def Wl:=@Option.getD_some
def Wm:=λ{a b c}=>@List.mem_append_right a b c
def Wn:=@Nat.sub_self
def Wo:=@Nat.mul_one
def Wq:=@Nat.le_of_lt
def Wu:=@Nat.min_eq_left
def Wv:=λ{a b c d}=>@List.mem_append_left a b c d
def Ww:=@List.all_append
def Wy:=@List.set_append_right
def Wz:=@List.length_singleton
def WA:=@Classical.choose_spec
def WB:=@Array.getElem?_modify
def WC:=@List.tail_drop
def WI:=@Nat.eq_zero_or_pos
def WJ:=@Nat.succ_mul
def WM:=@Option.toList_some
def WN:=@List.size_toArray
def WO:=@List.getElem_map
def WQ:=@List.any_eq_true
def WT:=@Nat.sub_zero
def WU:=@List.nodup_append
def WV:=@List.length_range
def WW:=@List.getElem?_inj
def WX:=@List.ext_getElem
def WY:=@Bool.not_eq_true'
def W7:=@Nat.mul_add
def W8:=@Nat.le_succ
def W9:=@List.take_length
def Xa:=@List.length_nil
def Xb:=@Array.getElem?_setIfInBounds_ne
def Xc:=@List.sum_append
def Xd:=@List.length_set
def Xe:=@List.dropLast_concat_getLast
def Xf:=@Option.map_some
def Xg:=@List.range_succ
def Xh:=@List.count_cons
def Xi:=@Int.tmod_eq_emod_of_nonneg
def Xk:=@bne_iff_ne
def Xl:=@List.sublist_append_right
def Xm:=@List.getElem?_take_of_lt
def Xn:=@List.drop_drop
def Xp:=@Bool.false_and
def Xq:=@Array.toList_setIfInBounds
def Xr:=@List.pairwise_iff_getElem
def Xv:=@Nat.testBit_two_pow_self
def Xz:=@ByteArray.ext
def XA:=@Bool.and_true
def XB:=@List.getElem?_cons_succ
end Go.Proofs
namespace Go.Proofs
abbrev XL(w:Go.World):=Go.RowKit.Below w.heap.size w
end Go.Proofs
