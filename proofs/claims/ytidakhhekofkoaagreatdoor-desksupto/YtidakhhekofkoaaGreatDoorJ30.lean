/- The reference: code: a point as a number. -/
import Derived.Test.YtidakhhekofkoaaGreatDoorJ23
import Derived.Test.YtidakhhekofkoaaGreatDoorJ15
import Derived.Test.YtidakhhekofkoaaGreatDoorJ21
set_option linter.unusedSimpArgs false
set_option linter.unusedVariables false
namespace Go.Proofs.YtidakhhekofkoaaGreatDoor
open Go.RowKit Go.Deep
def bitN (x:Bool):Nat:=if x=true then 1 else 0
def codeN (l:List Bool):Nat:=l.foldl (fun n b=>2 * n+bitN b) 0
def codeP (p:Bool × List Bool):Nat:=2 * codeN p.2+bitN p.1
theorem codeN_snoc (l:List Bool) (x:Bool):codeN (l++[x])=2 * codeN l+bitN x:=by unfold codeN;rw [List.foldl_append];rfl
theorem bitN_le (x:Bool):bitN x≤1:=by unfold bitN;split<;>omega
theorem bitN_inj {x y:Bool} (h:bitN x=bitN y):x=y:=by cases x<;>cases y<;>first|rfl|(revert h;decide)
theorem codeN_lt: ∀(l:List Bool),codeN l<2^l.length:=by
 refine snocInd (by decide) fun l a ih=> ?_
 rw [codeN_snoc,List.length_append,List.length_singleton,Nat.pow_succ]
 have:=bitN_le a
 omega
theorem codeN_inj {l m:List Bool} (hl:l.length=m.length) (hc:codeN l=codeN m):l=m:=by
 have: ∀(n:Nat) (l m:List Bool),l.length=n→m.length=n→codeN l=codeN m→l=m:=by
  intro n
  induction n with
  |zero=>intro l m h1 h2 _;rw [List.length_eq_zero_iff.1 h1,List.length_eq_zero_iff.1 h2]
  |succ n ih=>
   intro l m h1 h2 h
   have hl:l≠[]:=fun e=>by rw [e] at h1;simp at h1
   have hm:m≠[]:=fun e=>by rw [e] at h2;simp at h2
   rw [←List.dropLast_concat_getLast hl,←List.dropLast_concat_getLast hm,codeN_snoc,codeN_snoc] at h
   have b1:=bitN_le (l.getLast hl)
   have b2:=bitN_le (m.getLast hm)
   have e1:=ih l.dropLast m.dropLast (by rw [List.length_dropLast];omega) (by rw [List.length_dropLast];omega) (by omega)
   have e2:=bitN_inj (show bitN (l.getLast hl)=bitN (m.getLast hm) by omega)
   rw [←List.dropLast_concat_getLast hl,←List.dropLast_concat_getLast hm,e1,e2]
 exact this _ _ _ hl rfl hc
theorem codeP_inj {p q:Bool × List Bool} (hl:p.2.length=q.2.length) (h:codeP p=codeP q):p=q:=by
 unfold codeP at h
 have b1:=bitN_le p.1
 have b2:=bitN_le q.1
 have e1:=codeN_inj hl (by omega)
 have e2:=bitN_inj (show bitN p.1=bitN q.1 by omega)
 exact Prod.ext e2 e1
theorem codeP_lt (p:Bool × List Bool) {n:Nat} (h:p.2.length≤n):codeP p<2^(n+1):=by
 unfold codeP
 have b1:=bitN_le p.1
 have h1:=codeN_lt p.2
 have h2:2^p.2.length≤2^n:=Nat.pow_le_pow_right (by decide) h
 rw [Nat.pow_succ]
 omega
set_option maxHeartbeats 2000000 in
set_option maxRecDepth 100000 in
theorem code_any (w:World) (b:List Bool) (e:Bool) (hb:b.length≤30):
  Calls Tryz.prog 208 #[.agg #[.string (setS b),.bool e]] w fun en w'=>en= .returned (.int .i64 (codeP (e,b):Nat))∧Below w.heap.size w w':=by
 have hB:Below w.heap.size w (w.alloc (.cells #[.string (setS b),.bool e] 302)):=(Below.refl _ _).alloc (Nat.le_refl _) _
 have HBL:=hide (blk_alloc w (.cells #[.string (setS b),.bool e] 302))
 have hsz:=setS_size b
 have HB:=hide hB
 clear hB
 go_enter Tryz.func208,Tryz.ntmps208
 go_wp2_with fail
 generalize w.alloc (.cells #[.string (setS b),.bool e] 302)=W at *
 have c0:=cell_of_blk (unhide HBL) 0
 have c1:=cell_of_blk (unhide HBL) 1
 have l0:=lt_of_blk (unhide HBL)
 go_loopw [3,4] (fun n x wr=> ∃k:Nat,k≤b.length∧n= .int .i64 ((codeN (b.take k):Nat):Int)∧x= .int .i64 k∧Hid (W=wr)) (fun _ x _=>b.length - (intOf x).toNat)
 case atStart=>exact ⟨0,Nat.zero_le _,rfl,rfl,rfl⟩
 case round=>
  obtain ⟨k,hk,rfl,rfl,HW⟩:=hrel
  have hw:=unhide HW
  subst hw
  clear HW
  by_cases hlt:k<b.length
  ·have hkn:(k:Int)<((setS b).size:Int):=by omega
   have hks:k<(setS b).size:=by omega
   have hat:=setS_at hks (List.getElem?_eq_getElem hlt:b[k]? =some b[k])
   have HTK:Hid (codeN (b.take (k+1))=2 * codeN (b.take k)+bitN b[k]):=by
    show _=_
    rw [List.take_add_one,List.getElem?_eq_getElem hlt]
    exact codeN_snoc (b.take k) b[k]
   have hlt2:=codeN_lt (b.take k)
   have hlt3:2^(b.take k).length≤2^30:=Nat.pow_le_pow_right (by decide) (by rw [List.length_take];omega)
   have hlt4:(2:Nat)^30=1073741824:=by decide
   have hbn:((bitN b[k]:Nat):Int)=((setS b)[k].toNat:Int):=by rw [hat];unfold bitN;split<;>rfl
   have hble:=bitN_le b[k]
   clear hat
   generalize hcn:codeN (b.take k)=S at *
   have hS:S≤1073741824:=by omega
   clear hcn hlt2 hlt3 hlt4
   generalize b[k]=x at *
   generalize hyy:(setS b)[k]=y at *
   have hy1:(y.toNat:Int)≤1:=by omega
   go_wp2_with fail
   go_roundw
   case rel=>exact ⟨k+1,by omega,by rw [unhide HTK];go_num,by go_num,trivial⟩
   case measure=>simp [intOf];omega
  ·have hkn:¬ (k:Int)<((setS b).size:Int):=by omega
   rw [List.take_of_length_le (by omega)]
   have hlt2:=codeN_lt b
   have hlt3:2^b.length≤2^30:=Nat.pow_le_pow_right (by decide) hb
   have hlt4:(2:Nat)^30=1073741824:=by decide
   have HC:Hid (codeP (e,b)=2 * codeN b+bitN e):=rfl
   generalize codeN b=S at *
   have hS:S≤1073741824:=by omega
   clear hlt2 hlt3 hlt4
   cases e with
   |true=>
    go_wp2_with fail
    refine bodyPost_ret (v:= .int .i64 ((2 * S+1:Nat):Int)) (by simp [results,Tryz.results208,go_sem]) rfl ?_
    exact ⟨by rw [unhide HC];rfl,unhide HB⟩
   |false=>
    go_wp2_with fail
    refine bodyPost_ret (v:= .int .i64 ((2 * S:Nat):Int)) (by simp [results,Tryz.results208,go_sem]) rfl ?_
    exact ⟨by rw [unhide HC];rfl,unhide HB⟩
end Go.Proofs.YtidakhhekofkoaaGreatDoor
