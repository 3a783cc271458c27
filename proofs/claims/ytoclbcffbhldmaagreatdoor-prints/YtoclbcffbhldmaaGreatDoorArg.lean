/- Plain mathematics of the faults of calls of templates: no program in it. -/
import Derived.Test.YtoclbcffbhldmaaGreatDoorTpl
namespace Go.Proofs.YtoclbcffbhldmaaGreatDoor
open Go.Deep

/-- Does a token fit nothing that a template takes there? (c: 110 an activity, 100 a number from 1 to 3) -/
def badArg (kinds : List UInt8) (t : Tk) : Bool :=
  match kinds with
  | [] => true
  | c :: _ => if t.k = 2 then !(c.toNat == 110) else if c.toNat = 100 then (match t.s.data.toList with | d :: _ => decide (d.toNat < 49) || decide (51 < d.toNat) | [] => false) else true
def fArg (al : List Tk) (kinds : List UInt8) (t : Tk) : List (Nat × Nat) := (if t.k = 2 then fName al t.s t.p else []) ++ (if badArg kinds t = true then [(t.p, 4)] else [])
def fArgs (al : List Tk) : List UInt8 → List Tk → List (Nat × Nat)
  | _, [] => []
  | kinds, t :: r => fArg al kinds t ++ fArgs al kinds.tail r
/-- The faults of a call of a template. -/
def fCall (al : List Tk) (r : Rl) : List (Nat × Nat) :=
  (if 8 < r.word.s.size then [(r.word.p, 1)] else []) ++ ((if tplNo r.word.s.toList ≤ 11 then [] else [(r.word.p, 3)]) ++ (fArgs al (tplTakes (tplNo r.word.s.toList)) r.args ++ (if r.args.length < (tplTakes (tplNo r.word.s.toList)).length then [(r.fin, 4)] else [])))
end Go.Proofs.YtoclbcffbhldmaaGreatDoor
