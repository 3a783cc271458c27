/- The reference's Formulas: the formulas of all rules. -/
import Derived.Test.YtoclbcffbhldmaaGreatDoorF4
set_option linter.unusedSimpArgs false
namespace Go.Proofs.YtoclbcffbhldmaaGreatDoor
open Go.RowKit Go.Deep

/-- A call of a template with the arguments that it takes. -/
def CallOk (r : Rl) : Prop :=
  (tplNo r.word.s.toList ≤ 1 ∧ ∃ x, r.args = [x]) ∨
  (2 ≤ tplNo r.word.s.toList ∧ tplNo r.word.s.toList ≤ 3 ∧ ∃ x y, r.args = [x, y] ∧ ∃ c : UInt8, y.s = ⟨#[c]⟩ ∧ 49 ≤ c.toNat ∧ c.toNat ≤ 57) ∨
  (4 ≤ tplNo r.word.s.toList ∧ tplNo r.word.s.toList ≤ 11 ∧ ∃ x y, r.args = [x, y])
def argS (l : List Tk) (i : Nat) : ByteArray := match l.drop i with | t :: _ => t.s | [] => ByteArray.empty
/-- The formula of a rule. -/
def ruleF (r : Rl) : Fm := if r.call = true then tplF (tplNo r.word.s.toList) (argS r.args 0) (argS r.args 1) (digitN (argS r.args 1)) else r.f

theorem tplNo_inv {l : List UInt8} : (tplNo l = 0 ∧ l = [105, 110, 105, 116]) ∨ (tplNo l = 1 ∧ l = [108, 97, 115, 116]) ∨ (tplNo l = 2 ∧ l = [115, 111, 109, 101]) ∨ (tplNo l = 3 ∧ l = [102, 101, 119]) ∨
    (tplNo l = 4 ∧ l = [114, 101, 115, 112, 111, 110, 115, 101]) ∨ (tplNo l = 5 ∧ l = [112, 114, 101, 99, 101, 100, 101]) ∨ (tplNo l = 6 ∧ l = [99, 104, 97, 105, 110]) ∨ (tplNo l = 7 ∧ l = [98, 101, 102, 111, 114, 101]) ∨
    (tplNo l = 8 ∧ l = [119, 105, 116, 104]) ∨ (tplNo l = 9 ∧ l = [97, 112, 97, 114, 116]) ∨ (tplNo l = 10 ∧ l = [110, 101, 118, 101, 114]) ∨ (tplNo l = 11 ∧ l = [110, 111, 116, 110, 101, 120, 116]) ∨ tplNo l = 12 := by
  by_cases h0 : l = [105, 110, 105, 116]
  · subst h0; exact Or.inl ⟨by decide, rfl⟩
  by_cases h1 : l = [108, 97, 115, 116]
  · subst h1; exact Or.inr (Or.inl ⟨by decide, rfl⟩)
  by_cases h2 : l = [115, 111, 109, 101]
  · subst h2; exact Or.inr (Or.inr (Or.inl ⟨by decide, rfl⟩))
  by_cases h3 : l = [102, 101, 119]
  · subst h3; exact Or.inr (Or.inr (Or.inr (Or.inl ⟨by decide, rfl⟩)))
  by_cases h4 : l = [114, 101, 115, 112, 111, 110, 115, 101]
  · subst h4; exact Or.inr (Or.inr (Or.inr (Or.inr (Or.inl ⟨by decide, rfl⟩))))
  by_cases h5 : l = [112, 114, 101, 99, 101, 100, 101]
  · subst h5; exact Or.inr (Or.inr (Or.inr (Or.inr (Or.inr (Or.inl ⟨by decide, rfl⟩)))))
  by_cases h6 : l = [99, 104, 97, 105, 110]
  · subst h6; exact Or.inr (Or.inr (Or.inr (Or.inr (Or.inr (Or.inr (Or.inl ⟨by decide, rfl⟩))))))
  by_cases h7 : l = [98, 101, 102, 111, 114, 101]
  · subst h7; exact Or.inr (Or.inr (Or.inr (Or.inr (Or.inr (Or.inr (Or.inr (Or.inl ⟨by decide, rfl⟩)))))))
  by_cases h8 : l = [119, 105, 116, 104]
  · subst h8; exact Or.inr (Or.inr (Or.inr (Or.inr (Or.inr (Or.inr (Or.inr (Or.inr (Or.inl ⟨by decide, rfl⟩))))))))
  by_cases h9 : l = [97, 112, 97, 114, 116]
  · subst h9; exact Or.inr (Or.inr (Or.inr (Or.inr (Or.inr (Or.inr (Or.inr (Or.inr (Or.inr (Or.inl ⟨by decide, rfl⟩)))))))))
  by_cases h10 : l = [110, 101, 118, 101, 114]
  · subst h10; exact Or.inr (Or.inr (Or.inr (Or.inr (Or.inr (Or.inr (Or.inr (Or.inr (Or.inr (Or.inr (Or.inl ⟨by decide, rfl⟩))))))))))
  by_cases h11 : l = [110, 111, 116, 110, 101, 120, 116]
  · subst h11; exact Or.inr (Or.inr (Or.inr (Or.inr (Or.inr (Or.inr (Or.inr (Or.inr (Or.inr (Or.inr (Or.inr (Or.inl ⟨by decide, rfl⟩)))))))))))
  · refine Or.inr (Or.inr (Or.inr (Or.inr (Or.inr (Or.inr (Or.inr (Or.inr (Or.inr (Or.inr (Or.inr (Or.inr ?_)))))))))))
    simp only [tplNo, h0, h1, h2, h3, h4, h5, h6, h7, h8, h9, h10, h11, if_false]

/-- stands, of any call that is right. -/
theorem stands_any (w : World) (r : Rl) (a b : Int) (s : ByteArray) (c : Int) (o : Option Addr) (n k : Nat) (d : Int) (p : Option Addr) (h : RlIs w r a b s c o n k d p) (hc : r.call = true) (hok : CallOk r) :
    Calls Tryz.prog 114 #[rlV a b s c o n k d p] w fun e w' => ∃ v, e = .returned (.pointer v) ∧ IsF w' (ruleF r) v ∧ Below w.heap.size w w' := by
  obtain ⟨_, h2⟩ := h
  rw [if_pos hc] at h2
  obtain ⟨_, hs, _, ho, _, _⟩ := h2
  subst hs
  rw [ruleF, if_pos hc]
  have ha : ActsAre w o n k r.args := ho
  have hi := tplNo_inv (l := r.word.s.toList)
  rcases hok with ⟨hk, x, hx⟩ | ⟨hk1, hk2, x, y, hx, hd⟩ | ⟨hk1, hk2, x, y, hx⟩
  · rw [hx] at ha ⊢
    rcases hi with ⟨e, hw⟩ | ⟨e, hw⟩ | ⟨e, hw⟩ | ⟨e, hw⟩ | ⟨e, hw⟩ | ⟨e, hw⟩ | ⟨e, hw⟩ | ⟨e, hw⟩ | ⟨e, hw⟩ | ⟨e, hw⟩ | ⟨e, hw⟩ | ⟨e, hw⟩ | e
    · rw [e]; exact stands_0 w a b _ c o n k d p x ha hw
    · rw [e]; exact stands_1 w a b _ c o n k d p x ha hw
    all_goals omega
  · rw [hx] at ha ⊢
    rcases hi with ⟨e, hw⟩ | ⟨e, hw⟩ | ⟨e, hw⟩ | ⟨e, hw⟩ | ⟨e, hw⟩ | ⟨e, hw⟩ | ⟨e, hw⟩ | ⟨e, hw⟩ | ⟨e, hw⟩ | ⟨e, hw⟩ | ⟨e, hw⟩ | ⟨e, hw⟩ | e
    · omega
    · omega
    · rw [e]; exact stands_2 w a b _ c o n k d p x y ha hw hd
    · rw [e]; exact stands_3 w a b _ c o n k d p x y ha hw hd
    all_goals omega
  · rw [hx] at ha ⊢
    rcases hi with ⟨e, hw⟩ | ⟨e, hw⟩ | ⟨e, hw⟩ | ⟨e, hw⟩ | ⟨e, hw⟩ | ⟨e, hw⟩ | ⟨e, hw⟩ | ⟨e, hw⟩ | ⟨e, hw⟩ | ⟨e, hw⟩ | ⟨e, hw⟩ | ⟨e, hw⟩ | e
    · omega
    · omega
    · omega
    · omega
    · rw [e]; exact stands_4 w a b _ c o n k d p x y ha hw
    · rw [e]; exact stands_5 w a b _ c o n k d p x y ha hw
    · rw [e]; exact stands_6 w a b _ c o n k d p x y ha hw
    · rw [e]; exact stands_7 w a b _ c o n k d p x y ha hw
    · rw [e]; exact stands_8 w a b _ c o n k d p x y ha hw
    · rw [e]; exact stands_9 w a b _ c o n k d p x y ha hw
    · rw [e]; exact stands_10 w a b _ c o n k d p x y ha hw
    · rw [e]; exact stands_11 w a b _ c o n k d p x y ha hw
    · omega
end Go.Proofs.YtoclbcffbhldmaaGreatDoor
