/- Plain mathematics of models: what a list of tokens says: no program in it. -/
import Derived.Test.YtoclbcffbhldmaaGreatDoorAst
namespace Go.Proofs.YtoclbcffbhldmaaGreatDoor
open Go.Deep

/-- A rule as read: its place; a call of a template (its word, its arguments, the place of its closing bracket), or a formula. -/
structure Rl where
  pl : Nat
  call : Bool
  word : Tk
  args : List Tk
  fin : Nat
  f : Fm

def headT (l : List Tk) : Tk := match l with | [] => ⟨0, ByteArray.empty, 0⟩ | t :: _ => t
def tk0 : Tk := ⟨0, ByteArray.empty, 0⟩

def ruleRead (l : List Tk) : Except Nat (Rl × List Tk) :=
  if headK l = 2 ∧ headK l.tail = 18 then
    (if headK l.tail.tail = 2 then
      (if headK l.tail.tail.tail = 20 then
        (if headK l.tail.tail.tail.tail = 2 ∨ headK l.tail.tail.tail.tail = 3 then
          (if headK l.tail.tail.tail.tail.tail = 19 then .ok (⟨0, true, headT l, [headT l.tail.tail, headT l.tail.tail.tail.tail], headP l.tail.tail.tail.tail.tail, .nil⟩, l.tail.tail.tail.tail.tail.tail)
           else .error (headP l.tail.tail.tail.tail.tail))
         else .error (headP l.tail.tail.tail.tail))
       else if headK l.tail.tail.tail = 19 then .ok (⟨0, true, headT l, [headT l.tail.tail], headP l.tail.tail.tail, .nil⟩, l.tail.tail.tail.tail)
       else .error (headP l.tail.tail.tail))
     else .error (headP l.tail.tail))
  else (match pf (6 * l.length + 5) 0 .nil l with
    | .error q => .error q
    | .ok (f, l1) => .ok (⟨0, false, tk0, [], 0, f⟩, l1))

def actsRead : Nat → List Tk → Except Nat (List Tk × List Tk)
  | 0, l => .error (headP l)
  | n + 1, l => if headK l = 2 then
      (if headK l.tail = 20 then (match actsRead n l.tail.tail with | .error q => .error q | .ok (ts, l1) => .ok (headT l :: ts, l1))
       else .ok ([headT l], l.tail))
    else .error (headP l)

def rulesRead : Nat → List Tk → Except Nat (List Rl)
  | 0, l => .error (headP l)
  | n + 1, l => if headK l = 0 then .ok []
    else if headK l = 5 then (match ruleRead l.tail with
      | .error q => .error q
      | .ok (r, l1) => if headK l1 = 21 then (match rulesRead n l1.tail with | .error q => .error q | .ok rs => .ok ({ r with pl := headP l } :: rs)) else .error (headP l1))
    else .error (headP l)

/-- A model as read: its activities, its rules; or the place of the token that fits nowhere. -/
def modelRead (l : List Tk) : Except Nat (List Tk × List Rl) :=
  if headK l = 4 then (match actsRead l.length l.tail with
    | .error q => .error q
    | .ok (as, l1) => if headK l1 = 21 then (match rulesRead l1.length l1.tail with | .error q => .error q | .ok rs => .ok (as, rs)) else .error (headP l1))
  else .error (headP l)
end Go.Proofs.YtoclbcffbhldmaaGreatDoor
