/- Plain mathematics of templates: no program in it. -/
import Derived.Test.YtoclbcffbhldmaaGreatDoorFlt
namespace Go.Proofs.YtoclbcffbhldmaaGreatDoor
open Go.Deep

/-- The number of a template by its word; 12: there is none. -/
def tplNo (l : List UInt8) : Nat :=
  if l = [105, 110, 105, 116] then 0 else if l = [108, 97, 115, 116] then 1 else if l = [115, 111, 109, 101] then 2 else if l = [102, 101, 119] then 3 else
  if l = [114, 101, 115, 112, 111, 110, 115, 101] then 4 else if l = [112, 114, 101, 99, 101, 100, 101] then 5 else if l = [99, 104, 97, 105, 110] then 6 else if l = [98, 101, 102, 111, 114, 101] then 7 else
  if l = [119, 105, 116, 104] then 8 else if l = [97, 112, 97, 114, 116] then 9 else if l = [110, 101, 118, 101, 114] then 10 else if l = [110, 111, 116, 110, 101, 120, 116] then 11 else 12
/-- What a template takes: n an activity, d a number. -/
def tplTakes (k : Nat) : List UInt8 := if k ≤ 1 then [110] else if k ≤ 3 then [110, 100] else if k ≤ 11 then [110, 110] else []

def acF (s : ByteArray) : Fm := leaf 0 s 0
/-- F a; F (a and X F a); .. -/
def timesF (a : ByteArray) : Nat → Fm
  | 0 => one 7 (acF a)
  | 1 => one 7 (acF a)
  | n + 2 => one 7 (two 10 (acF a) (one 5 (timesF a (n + 1))))
/-- The formula that a template stands for. -/
def tplF (k : Nat) (a b : ByteArray) (n : Nat) : Fm :=
  if k = 0 then acF a
  else if k = 1 then one 7 (two 10 (acF a) (one 4 (one 5 (leaf 1 ByteArray.empty 0))))
  else if k = 2 then timesF a n
  else if k = 3 then one 4 (timesF a n)
  else if k = 4 then one 8 (two 12 (acF a) (one 7 (acF b)))
  else if k = 5 then two 11 (two 9 (one 4 (acF b)) (acF a)) (one 8 (one 4 (acF b)))
  else if k = 6 then one 8 (two 12 (acF a) (one 5 (acF b)))
  else if k = 7 then two 10 (one 4 (acF b)) (one 8 (two 12 (one 5 (acF b)) (acF a)))
  else if k = 8 then two 12 (one 7 (acF a)) (one 7 (acF b))
  else if k = 9 then one 4 (two 10 (one 7 (acF a)) (one 7 (acF b)))
  else if k = 10 then one 8 (two 12 (acF a) (one 6 (one 8 (one 4 (acF b)))))
  else one 8 (two 12 (acF a) (one 4 (one 5 (acF b))))
/-- How many nodes. -/
def sizeF : Fm → Nat
  | .nil => 0
  | .node _ _ _ l r => 1 + sizeF l + sizeF r
end Go.Proofs.YtoclbcffbhldmaaGreatDoor
