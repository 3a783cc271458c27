/- Plain mathematics of faults: no program in it. A fault is a place and an error; the one that counts has the least place, of one place the least error. -/
import Derived.Test.YtoclbcffbhldmaaGreatDoorRul
namespace Go.Proofs.YtoclbcffbhldmaaGreatDoor
open Go.Deep

def meet (x : Nat × Nat) (p e : Nat) : Nat × Nat := if x.2 = 0 ∨ p < x.1 ∨ (p = x.1 ∧ e < x.2) then (p, e) else x
def meets (x : Nat × Nat) (l : List (Nat × Nat)) : Nat × Nat := l.foldl (fun x f => meet x f.1 f.2) x
theorem meets_nil (x : Nat × Nat) : meets x [] = x := rfl
theorem meets_cons (x f : Nat × Nat) (l : List (Nat × Nat)) : meets x (f :: l) = meets (meet x f.1 f.2) l := rfl
theorem meets_append (x : Nat × Nat) (l m : List (Nat × Nat)) : meets x (l ++ m) = meets (meets x l) m := List.foldl_append

/-- Is a name one of the activities? -/
def hasN (al : List Tk) (s : ByteArray) : Bool :=
  match al with
  | [] => false
  | t :: r => if t.s.toList = s.toList then true else hasN r s
/-- The faults of a name in a rule. -/
def fName (al : List Tk) (s : ByteArray) (p : Nat) : List (Nat × Nat) := (if 8 < s.size then [(p, 1)] else []) ++ (if hasN al s = true then [] else [(p, 3)])
/-- Those of a formula. -/
def fFm (al : List Tk) : Fm → List (Nat × Nat)
  | .nil => []
  | .node _ _ a l r => (if a.1 = 0 then fName al a.2.1 a.2.2 else []) ++ (fFm al l ++ fFm al r)
end Go.Proofs.YtoclbcffbhldmaaGreatDoor
