/- The reference's stands: the formula that a template stands for. -/
import Derived.Test.YtidakhhekofkoaaGreatDoorK14
import Derived.Test.YtidakhhekofkoaaGreatDoorK05
import Derived.Deep.QuietTactic
import Derived.BigQuiet
import Derived.Deep.TreeCalls
set_option linter.unusedSimpArgs false
namespace Go.Proofs.YtidakhhekofkoaaGreatDoor
open Go.RowKit Go.Deep
def digitN (s : ByteArray) : Nat := match s.data.toList with | c :: _ => c.toNat - 48 | [] => 0
def CallOk (r : Rl) : Prop :=
 (tplNo r.word.s.toList ≤ 1 ∧ ∃ x, r.args = [x]) ∨
 (2 ≤ tplNo r.word.s.toList ∧ tplNo r.word.s.toList ≤ 3 ∧ ∃ x y, r.args = [x, y] ∧ ∃ c : UInt8, y.s = ⟨#[c]⟩ ∧ 49 ≤ c.toNat ∧ c.toNat ≤ 57) ∨
 (4 ≤ tplNo r.word.s.toList ∧ tplNo r.word.s.toList ≤ 11 ∧ ∃ x y, r.args = [x, y])
def argS (l : List Tk) (i : Nat) : ByteArray := match l.drop i with | t :: _ => t.s | [] => ByteArray.empty
def ruleF (r : Rl) : Fm := if r.call = true then tplF (tplNo r.word.s.toList) (argS r.args 0) (argS r.args 1) (digitN (argS r.args 1)) else r.f
end Go.Proofs.YtidakhhekofkoaaGreatDoor
