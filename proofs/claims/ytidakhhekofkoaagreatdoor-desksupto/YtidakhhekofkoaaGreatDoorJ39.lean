/- The law's looks and settle, where only texts were marked and nothing waits; its step. -/
import Derived.Test.YtidakhhekofkoaaGreatDoorJ37
import Derived.Laws.AppendOwnNone
set_option linter.unusedSimpArgs false
set_option linter.unusedVariables false
namespace Go.Proofs.YtidakhhekofkoaaGreatDoor
open Go.RowKit Go.Deep
theorem bksC_len (bs:List Bk):(bksC bs).length=bs.length * 5:=by
 induction bs with
 |nil=>rfl
 |cons d r ih=>unfold bksC at ih⊢;rw [List.flatMap_cons,List.length_append,ih];show 5+_=_;rw [List.length_cons];omega
theorem bksC_at: ∀{bs:List Bk} {k:Nat} {b:Bk},bs[k]? =some b→ ∀j,j<5→(bksC bs)[k * 5+j]? =(bkC b)[j]?
 |[],k,d,h,j,hj=>by simp at h
 |x::r,0,d,h,j,hj=>by
  simp at h;subst h
  show (bkC x++bksC r)[0 * 5+j]? =_
  rw [Nat.zero_mul,Nat.zero_add,List.getElem?_append_left (by show j<5;exact hj)]
 |x::r,k+1,d,h,j,hj=>by
  show (bkC x++bksC r)[(k+1) * 5+j]? =_
  rw [List.getElem?_append_right (by show 5≤_;omega),show (k+1) * 5+j - (bkC x).length=k * 5+j by show (k+1) * 5+j - 5=_;omega]
  exact bksC_at (by simpa using h) j hj
end Go.Proofs.YtidakhhekofkoaaGreatDoor
