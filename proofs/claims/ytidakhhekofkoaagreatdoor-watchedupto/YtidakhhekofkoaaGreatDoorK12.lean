/- The program's look: whether a step holds at a place. -/
import Derived.Test.YtidakhhekofkoaaGreatDoorK09
import Derived.BigQuiet
import Derived.Deep.RegionWith
set_option linter.unusedSimpArgs false
set_option linter.unusedVariables false
namespace Go.Proofs.YtidakhhekofkoaaGreatDoor
open Go.RowKit Go.Deep
def LkAt (w : World) (lb : Nat) (ins : Bool) (ev : ByteArray) (more : Bool) (nx hr : Nat) : Prop := w.heap[lb]? = some (.cells #[.bool ins, .string ev, .bool more, .int .u32 (nx : Int), .int .u32 (hr : Int)] 277 (0, 0))
theorem bdn' (w : World) : ∀ n, Below w.heap.size w (w.drewN n) := fun _ => ⟨rfl, rfl, rfl, Nat.le_refl _, fun _ _ => rfl⟩
set_option maxHeartbeats 600000 in
set_option maxRecDepth 100000 in
theorem lk_act (w : World) (lb : Nat) (ins : Bool) (ev : ByteArray) (more : Bool) (nx hr : Nat) (s : ByteArray) (i a b : Nat) (h : LkAt w lb ins ev more nx hr) (hnx : nx < 4294967296) (hhr : hr < 4294967296) (hi : i ≤ 31) (ha : a ≤ 31) (hb : b ≤ 31) :
  Calls Tryz.prog 197 #[.pointer (some ⟨lb, 0, none⟩), .int .i64 (i : Int), .agg #[.int .i64 0, .string s, .int .i64 (a : Int), .int .i64 (b : Int)]] w fun e w' => e = .returned (.bool (stepP 0 ins more (ev.toList == s.toList) (hr.testBit a) (hr.testBit b) (nx.testBit a) (nx.testBit i))) ∧ Below w.heap.size w w' := by
 have bc := fun o => cell_of_blk h o
 have hlt := lt_of_blk h
 clear h
 cases ins
 ·go_enter Tryz.func197, Tryz.ntmps197
  go_wp2_with fail
  go_quiet (fail)
  go_wp2_with fail
  go_ret
  exact ⟨rfl, (((Below.refl _ _).alloc (Nat.le_refl _) _).trans ((bdn' _ _).mono (by simp)))⟩
 ·go_enter Tryz.func197, Tryz.ntmps197
  go_wp2_with fail
  go_quiet (fail)
  go_wp2_with fail
  go_ret
  exact ⟨rfl, (((Below.refl _ _).alloc (Nat.le_refl _) _).trans ((bdn' _ _).mono (by simp)))⟩
set_option maxHeartbeats 600000 in
set_option maxRecDepth 100000 in
theorem lk_true (w : World) (lb : Nat) (ins : Bool) (ev : ByteArray) (more : Bool) (nx hr : Nat) (s : ByteArray) (i a b : Nat) (h : LkAt w lb ins ev more nx hr) (hnx : nx < 4294967296) (hhr : hr < 4294967296) (hi : i ≤ 31) (ha : a ≤ 31) (hb : b ≤ 31) :
  Calls Tryz.prog 197 #[.pointer (some ⟨lb, 0, none⟩), .int .i64 (i : Int), .agg #[.int .i64 1, .string s, .int .i64 (a : Int), .int .i64 (b : Int)]] w fun e w' => e = .returned (.bool (stepP 1 ins more (ev.toList == s.toList) (hr.testBit a) (hr.testBit b) (nx.testBit a) (nx.testBit i))) ∧ Below w.heap.size w w' := by
 have bc := fun o => cell_of_blk h o
 have hlt := lt_of_blk h
 clear h
 go_enter Tryz.func197, Tryz.ntmps197
 go_wp2_with fail
 go_ret
 exact ⟨rfl, (Below.refl _ _).alloc (Nat.le_refl _) _⟩
set_option maxHeartbeats 600000 in
set_option maxRecDepth 100000 in
theorem lk_false (w : World) (lb : Nat) (ins : Bool) (ev : ByteArray) (more : Bool) (nx hr : Nat) (s : ByteArray) (i a b : Nat) (h : LkAt w lb ins ev more nx hr) (hnx : nx < 4294967296) (hhr : hr < 4294967296) (hi : i ≤ 31) (ha : a ≤ 31) (hb : b ≤ 31) :
  Calls Tryz.prog 197 #[.pointer (some ⟨lb, 0, none⟩), .int .i64 (i : Int), .agg #[.int .i64 2, .string s, .int .i64 (a : Int), .int .i64 (b : Int)]] w fun e w' => e = .returned (.bool (stepP 2 ins more (ev.toList == s.toList) (hr.testBit a) (hr.testBit b) (nx.testBit a) (nx.testBit i))) ∧ Below w.heap.size w w' := by
 have bc := fun o => cell_of_blk h o
 have hlt := lt_of_blk h
 clear h
 go_enter Tryz.func197, Tryz.ntmps197
 go_wp2_with fail
 go_ret
 exact ⟨rfl, (Below.refl _ _).alloc (Nat.le_refl _) _⟩
set_option maxHeartbeats 600000 in
set_option maxRecDepth 100000 in
theorem lk_end (w : World) (lb : Nat) (ins : Bool) (ev : ByteArray) (more : Bool) (nx hr : Nat) (s : ByteArray) (i a b : Nat) (h : LkAt w lb ins ev more nx hr) (hnx : nx < 4294967296) (hhr : hr < 4294967296) (hi : i ≤ 31) (ha : a ≤ 31) (hb : b ≤ 31) :
  Calls Tryz.prog 197 #[.pointer (some ⟨lb, 0, none⟩), .int .i64 (i : Int), .agg #[.int .i64 3, .string s, .int .i64 (a : Int), .int .i64 (b : Int)]] w fun e w' => e = .returned (.bool (stepP 3 ins more (ev.toList == s.toList) (hr.testBit a) (hr.testBit b) (nx.testBit a) (nx.testBit i))) ∧ Below w.heap.size w w' := by
 have bc := fun o => cell_of_blk h o
 have hlt := lt_of_blk h
 clear h
 go_enter Tryz.func197, Tryz.ntmps197
 go_wp2_with fail
 go_ret
 exact ⟨rfl, (Below.refl _ _).alloc (Nat.le_refl _) _⟩
set_option maxHeartbeats 600000 in
set_option maxRecDepth 100000 in
theorem lk_not (w : World) (lb : Nat) (ins : Bool) (ev : ByteArray) (more : Bool) (nx hr : Nat) (s : ByteArray) (i a b : Nat) (h : LkAt w lb ins ev more nx hr) (hnx : nx < 4294967296) (hhr : hr < 4294967296) (hi : i ≤ 31) (ha : a ≤ 31) (hb : b ≤ 31) :
  Calls Tryz.prog 197 #[.pointer (some ⟨lb, 0, none⟩), .int .i64 (i : Int), .agg #[.int .i64 4, .string s, .int .i64 (a : Int), .int .i64 (b : Int)]] w fun e w' => e = .returned (.bool (stepP 4 ins more (ev.toList == s.toList) (hr.testBit a) (hr.testBit b) (nx.testBit a) (nx.testBit i))) ∧ Below w.heap.size w w' := by
 have bc := fun o => cell_of_blk h o
 have hlt := lt_of_blk h
 clear h
 cases h1 : hr.testBit a
 ·go_enter Tryz.func197, Tryz.ntmps197
  go_wp2_with fail
  go_quiet (first | (go_at_call_of 168 a; exact Calls.quiet_of_same (pHas_any hr a hhr ha _ h1 _)))
  go_wp2_with fail
  go_ret
  exact ⟨rfl, (((Below.refl _ _).alloc (Nat.le_refl _) _).trans ((bdn' _ _).mono (by simp)))⟩
 ·go_enter Tryz.func197, Tryz.ntmps197
  go_wp2_with fail
  go_quiet (first | (go_at_call_of 168 a; exact Calls.quiet_of_same (pHas_any hr a hhr ha _ h1 _)))
  go_wp2_with fail
  go_ret
  exact ⟨rfl, (((Below.refl _ _).alloc (Nat.le_refl _) _).trans ((bdn' _ _).mono (by simp)))⟩
set_option maxHeartbeats 600000 in
set_option maxRecDepth 100000 in
theorem lk_and (w : World) (lb : Nat) (ins : Bool) (ev : ByteArray) (more : Bool) (nx hr : Nat) (s : ByteArray) (i a b : Nat) (h : LkAt w lb ins ev more nx hr) (hnx : nx < 4294967296) (hhr : hr < 4294967296) (hi : i ≤ 31) (ha : a ≤ 31) (hb : b ≤ 31) :
  Calls Tryz.prog 197 #[.pointer (some ⟨lb, 0, none⟩), .int .i64 (i : Int), .agg #[.int .i64 10, .string s, .int .i64 (a : Int), .int .i64 (b : Int)]] w fun e w' => e = .returned (.bool (stepP 10 ins more (ev.toList == s.toList) (hr.testBit a) (hr.testBit b) (nx.testBit a) (nx.testBit i))) ∧ Below w.heap.size w w' := by
 have bc := fun o => cell_of_blk h o
 have hlt := lt_of_blk h
 clear h
 cases h1 : hr.testBit a
 ·go_enter Tryz.func197, Tryz.ntmps197
  go_wp2_with fail
  go_quiet (first | (go_at_call_of 168 a; exact Calls.quiet_of_same (pHas_any hr a hhr ha _ h1 _)))
  go_wp2_with fail
  go_ret
  exact ⟨rfl, (((Below.refl _ _).alloc (Nat.le_refl _) _).trans ((bdn' _ _).mono (by simp)))⟩
 ·cases h2 : hr.testBit b
  ·go_enter Tryz.func197, Tryz.ntmps197
   go_wp2_with fail
   go_quiet (first | (go_at_call_of 168 a; exact Calls.quiet_of_same (pHas_any hr a hhr ha _ h1 _)) | (go_at_call_of 168 b; exact Calls.quiet_of_same (pHas_any hr b hhr hb _ h2 _)))
   go_wp2_with fail
   go_ret
   exact ⟨rfl, (((Below.refl _ _).alloc (Nat.le_refl _) _).trans ((bdn' _ _).mono (by simp)))⟩
  ·go_enter Tryz.func197, Tryz.ntmps197
   go_wp2_with fail
   go_quiet (first | (go_at_call_of 168 a; exact Calls.quiet_of_same (pHas_any hr a hhr ha _ h1 _)) | (go_at_call_of 168 b; exact Calls.quiet_of_same (pHas_any hr b hhr hb _ h2 _)))
   go_wp2_with fail
   go_ret
   exact ⟨rfl, (((Below.refl _ _).alloc (Nat.le_refl _) _).trans ((bdn' _ _).mono (by simp)))⟩
set_option maxHeartbeats 600000 in
set_option maxRecDepth 100000 in
theorem lk_or (w : World) (lb : Nat) (ins : Bool) (ev : ByteArray) (more : Bool) (nx hr : Nat) (s : ByteArray) (i a b : Nat) (h : LkAt w lb ins ev more nx hr) (hnx : nx < 4294967296) (hhr : hr < 4294967296) (hi : i ≤ 31) (ha : a ≤ 31) (hb : b ≤ 31) :
  Calls Tryz.prog 197 #[.pointer (some ⟨lb, 0, none⟩), .int .i64 (i : Int), .agg #[.int .i64 11, .string s, .int .i64 (a : Int), .int .i64 (b : Int)]] w fun e w' => e = .returned (.bool (stepP 11 ins more (ev.toList == s.toList) (hr.testBit a) (hr.testBit b) (nx.testBit a) (nx.testBit i))) ∧ Below w.heap.size w w' := by
 have bc := fun o => cell_of_blk h o
 have hlt := lt_of_blk h
 clear h
 cases h1 : hr.testBit a
 ·cases h2 : hr.testBit b
  ·go_enter Tryz.func197, Tryz.ntmps197
   go_wp2_with fail
   go_quiet (first | (go_at_call_of 168 a; exact Calls.quiet_of_same (pHas_any hr a hhr ha _ h1 _)) | (go_at_call_of 168 b; exact Calls.quiet_of_same (pHas_any hr b hhr hb _ h2 _)))
   go_wp2_with fail
   go_ret
   exact ⟨rfl, (((Below.refl _ _).alloc (Nat.le_refl _) _).trans ((bdn' _ _).mono (by simp)))⟩
  ·go_enter Tryz.func197, Tryz.ntmps197
   go_wp2_with fail
   go_quiet (first | (go_at_call_of 168 a; exact Calls.quiet_of_same (pHas_any hr a hhr ha _ h1 _)) | (go_at_call_of 168 b; exact Calls.quiet_of_same (pHas_any hr b hhr hb _ h2 _)))
   go_wp2_with fail
   go_ret
   exact ⟨rfl, (((Below.refl _ _).alloc (Nat.le_refl _) _).trans ((bdn' _ _).mono (by simp)))⟩
 ·go_enter Tryz.func197, Tryz.ntmps197
  go_wp2_with fail
  go_quiet (first | (go_at_call_of 168 a; exact Calls.quiet_of_same (pHas_any hr a hhr ha _ h1 _)))
  go_wp2_with fail
  go_ret
  exact ⟨rfl, (((Below.refl _ _).alloc (Nat.le_refl _) _).trans ((bdn' _ _).mono (by simp)))⟩
set_option maxHeartbeats 600000 in
set_option maxRecDepth 100000 in
theorem lk_imp (w : World) (lb : Nat) (ins : Bool) (ev : ByteArray) (more : Bool) (nx hr : Nat) (s : ByteArray) (i a b : Nat) (h : LkAt w lb ins ev more nx hr) (hnx : nx < 4294967296) (hhr : hr < 4294967296) (hi : i ≤ 31) (ha : a ≤ 31) (hb : b ≤ 31) :
  Calls Tryz.prog 197 #[.pointer (some ⟨lb, 0, none⟩), .int .i64 (i : Int), .agg #[.int .i64 12, .string s, .int .i64 (a : Int), .int .i64 (b : Int)]] w fun e w' => e = .returned (.bool (stepP 12 ins more (ev.toList == s.toList) (hr.testBit a) (hr.testBit b) (nx.testBit a) (nx.testBit i))) ∧ Below w.heap.size w w' := by
 have bc := fun o => cell_of_blk h o
 have hlt := lt_of_blk h
 clear h
 cases h1 : hr.testBit a
 ·go_enter Tryz.func197, Tryz.ntmps197
  go_wp2_with fail
  go_quiet (first | (go_at_call_of 168 a; exact Calls.quiet_of_same (pHas_any hr a hhr ha _ h1 _)))
  go_wp2_with fail
  go_ret
  exact ⟨rfl, (((Below.refl _ _).alloc (Nat.le_refl _) _).trans ((bdn' _ _).mono (by simp)))⟩
 ·cases h2 : hr.testBit b
  ·go_enter Tryz.func197, Tryz.ntmps197
   go_wp2_with fail
   go_quiet (first | (go_at_call_of 168 a; exact Calls.quiet_of_same (pHas_any hr a hhr ha _ h1 _)) | (go_at_call_of 168 b; exact Calls.quiet_of_same (pHas_any hr b hhr hb _ h2 _)))
   go_wp2_with fail
   go_ret
   exact ⟨rfl, (((Below.refl _ _).alloc (Nat.le_refl _) _).trans ((bdn' _ _).mono (by simp)))⟩
  ·go_enter Tryz.func197, Tryz.ntmps197
   go_wp2_with fail
   go_quiet (first | (go_at_call_of 168 a; exact Calls.quiet_of_same (pHas_any hr a hhr ha _ h1 _)) | (go_at_call_of 168 b; exact Calls.quiet_of_same (pHas_any hr b hhr hb _ h2 _)))
   go_wp2_with fail
   go_ret
   exact ⟨rfl, (((Below.refl _ _).alloc (Nat.le_refl _) _).trans ((bdn' _ _).mono (by simp)))⟩
set_option maxHeartbeats 600000 in
set_option maxRecDepth 100000 in
theorem on_next (w : World) (lb : Nat) (ins : Bool) (ev : ByteArray) (more : Bool) (nx hr : Nat) (s : ByteArray) (i a b : Nat) (h : LkAt w lb ins ev more nx hr) (hnx : nx < 4294967296) (hhr : hr < 4294967296) (hi : i ≤ 31) (ha : a ≤ 31) (hb : b ≤ 31) :
  Calls Tryz.prog 242 #[.pointer (some ⟨lb, 0, none⟩), .int .i64 (i : Int), .agg #[.int .i64 5, .string s, .int .i64 (a : Int), .int .i64 (b : Int)]] w fun e w' => e = .returned (.bool (stepP 5 ins more (ev.toList == s.toList) (hr.testBit a) (hr.testBit b) (nx.testBit a) (nx.testBit i))) ∧ Below w.heap.size w w' := by
 have bc := fun o => cell_of_blk h o
 have hlt := lt_of_blk h
 clear h
 cases more
 ·go_enter Tryz.func242, Tryz.ntmps242
  go_wp2_with fail
  go_quiet (fail)
  go_wp2_with fail
  go_ret
  exact ⟨rfl, (((Below.refl _ _).alloc (Nat.le_refl _) _).trans ((bdn' _ _).mono (by simp)))⟩
 ·cases h1 : nx.testBit a
  ·go_enter Tryz.func242, Tryz.ntmps242
   go_wp2_with fail
   go_quiet (first | (go_at_call_of 168 a; exact Calls.quiet_of_same (pHas_any nx a hnx ha _ h1 _)))
   go_wp2_with fail
   go_ret
   exact ⟨rfl, (((Below.refl _ _).alloc (Nat.le_refl _) _).trans ((bdn' _ _).mono (by simp)))⟩
  ·go_enter Tryz.func242, Tryz.ntmps242
   go_wp2_with fail
   go_quiet (first | (go_at_call_of 168 a; exact Calls.quiet_of_same (pHas_any nx a hnx ha _ h1 _)))
   go_wp2_with fail
   go_ret
   exact ⟨rfl, (((Below.refl _ _).alloc (Nat.le_refl _) _).trans ((bdn' _ _).mono (by simp)))⟩
set_option maxHeartbeats 600000 in
set_option maxRecDepth 100000 in
theorem on_weak (w : World) (lb : Nat) (ins : Bool) (ev : ByteArray) (more : Bool) (nx hr : Nat) (s : ByteArray) (i a b : Nat) (h : LkAt w lb ins ev more nx hr) (hnx : nx < 4294967296) (hhr : hr < 4294967296) (hi : i ≤ 31) (ha : a ≤ 31) (hb : b ≤ 31) :
  Calls Tryz.prog 242 #[.pointer (some ⟨lb, 0, none⟩), .int .i64 (i : Int), .agg #[.int .i64 6, .string s, .int .i64 (a : Int), .int .i64 (b : Int)]] w fun e w' => e = .returned (.bool (stepP 6 ins more (ev.toList == s.toList) (hr.testBit a) (hr.testBit b) (nx.testBit a) (nx.testBit i))) ∧ Below w.heap.size w w' := by
 have bc := fun o => cell_of_blk h o
 have hlt := lt_of_blk h
 clear h
 cases more
 ·go_enter Tryz.func242, Tryz.ntmps242
  go_wp2_with fail
  go_quiet (fail)
  go_wp2_with fail
  go_ret
  exact ⟨rfl, (((Below.refl _ _).alloc (Nat.le_refl _) _).trans ((bdn' _ _).mono (by simp)))⟩
 ·cases h1 : nx.testBit a
  ·go_enter Tryz.func242, Tryz.ntmps242
   go_wp2_with fail
   go_quiet (first | (go_at_call_of 168 a; exact Calls.quiet_of_same (pHas_any nx a hnx ha _ h1 _)))
   go_wp2_with fail
   go_ret
   exact ⟨rfl, (((Below.refl _ _).alloc (Nat.le_refl _) _).trans ((bdn' _ _).mono (by simp)))⟩
  ·go_enter Tryz.func242, Tryz.ntmps242
   go_wp2_with fail
   go_quiet (first | (go_at_call_of 168 a; exact Calls.quiet_of_same (pHas_any nx a hnx ha _ h1 _)))
   go_wp2_with fail
   go_ret
   exact ⟨rfl, (((Below.refl _ _).alloc (Nat.le_refl _) _).trans ((bdn' _ _).mono (by simp)))⟩
set_option maxHeartbeats 600000 in
set_option maxRecDepth 100000 in
theorem on_fin (w : World) (lb : Nat) (ins : Bool) (ev : ByteArray) (more : Bool) (nx hr : Nat) (s : ByteArray) (i a b : Nat) (h : LkAt w lb ins ev more nx hr) (hnx : nx < 4294967296) (hhr : hr < 4294967296) (hi : i ≤ 31) (ha : a ≤ 31) (hb : b ≤ 31) :
  Calls Tryz.prog 242 #[.pointer (some ⟨lb, 0, none⟩), .int .i64 (i : Int), .agg #[.int .i64 7, .string s, .int .i64 (a : Int), .int .i64 (b : Int)]] w fun e w' => e = .returned (.bool (stepP 7 ins more (ev.toList == s.toList) (hr.testBit a) (hr.testBit b) (nx.testBit a) (nx.testBit i))) ∧ Below w.heap.size w w' := by
 have bc := fun o => cell_of_blk h o
 have hlt := lt_of_blk h
 clear h
 cases ins
 ·go_enter Tryz.func242, Tryz.ntmps242
  go_wp2_with fail
  go_quiet (fail)
  go_wp2_with fail
  go_ret
  exact ⟨rfl, (((Below.refl _ _).alloc (Nat.le_refl _) _).trans ((bdn' _ _).mono (by simp)))⟩
 ·cases h1 : hr.testBit a
  ·cases h2 : nx.testBit i
   ·go_enter Tryz.func242, Tryz.ntmps242
    go_wp2_with fail
    go_quiet (first | (go_at_call_of 168 a; exact Calls.quiet_of_same (pHas_any hr a hhr ha _ h1 _)) | (go_at_call_of 168 i; exact Calls.quiet_of_same (pHas_any nx i hnx hi _ h2 _)))
    go_wp2_with fail
    go_ret
    exact ⟨rfl, (((Below.refl _ _).alloc (Nat.le_refl _) _).trans ((bdn' _ _).mono (by simp)))⟩
   ·go_enter Tryz.func242, Tryz.ntmps242
    go_wp2_with fail
    go_quiet (first | (go_at_call_of 168 a; exact Calls.quiet_of_same (pHas_any hr a hhr ha _ h1 _)) | (go_at_call_of 168 i; exact Calls.quiet_of_same (pHas_any nx i hnx hi _ h2 _)))
    go_wp2_with fail
    go_ret
    exact ⟨rfl, (((Below.refl _ _).alloc (Nat.le_refl _) _).trans ((bdn' _ _).mono (by simp)))⟩
  ·go_enter Tryz.func242, Tryz.ntmps242
   go_wp2_with fail
   go_quiet (first | (go_at_call_of 168 a; exact Calls.quiet_of_same (pHas_any hr a hhr ha _ h1 _)))
   go_wp2_with fail
   go_ret
   exact ⟨rfl, (((Below.refl _ _).alloc (Nat.le_refl _) _).trans ((bdn' _ _).mono (by simp)))⟩
set_option maxHeartbeats 600000 in
set_option maxRecDepth 100000 in
theorem on_glob (w : World) (lb : Nat) (ins : Bool) (ev : ByteArray) (more : Bool) (nx hr : Nat) (s : ByteArray) (i a b : Nat) (h : LkAt w lb ins ev more nx hr) (hnx : nx < 4294967296) (hhr : hr < 4294967296) (hi : i ≤ 31) (ha : a ≤ 31) (hb : b ≤ 31) :
  Calls Tryz.prog 242 #[.pointer (some ⟨lb, 0, none⟩), .int .i64 (i : Int), .agg #[.int .i64 8, .string s, .int .i64 (a : Int), .int .i64 (b : Int)]] w fun e w' => e = .returned (.bool (stepP 8 ins more (ev.toList == s.toList) (hr.testBit a) (hr.testBit b) (nx.testBit a) (nx.testBit i))) ∧ Below w.heap.size w w' := by
 have bc := fun o => cell_of_blk h o
 have hlt := lt_of_blk h
 clear h
 cases ins
 ·go_enter Tryz.func242, Tryz.ntmps242
  go_wp2_with fail
  go_quiet (fail)
  go_wp2_with fail
  go_ret
  exact ⟨rfl, (((Below.refl _ _).alloc (Nat.le_refl _) _).trans ((bdn' _ _).mono (by simp)))⟩
 ·cases h1 : hr.testBit a
  ·go_enter Tryz.func242, Tryz.ntmps242
   go_wp2_with fail
   go_quiet (first | (go_at_call_of 168 a; exact Calls.quiet_of_same (pHas_any hr a hhr ha _ h1 _)))
   go_wp2_with fail
   go_ret
   exact ⟨rfl, (((Below.refl _ _).alloc (Nat.le_refl _) _).trans ((bdn' _ _).mono (by simp)))⟩
  ·cases h2 : nx.testBit i
   ·go_enter Tryz.func242, Tryz.ntmps242
    go_wp2_with fail
    go_quiet (first | (go_at_call_of 168 a; exact Calls.quiet_of_same (pHas_any hr a hhr ha _ h1 _)) | (go_at_call_of 168 i; exact Calls.quiet_of_same (pHas_any nx i hnx hi _ h2 _)))
    go_wp2_with fail
    go_ret
    exact ⟨rfl, (((Below.refl _ _).alloc (Nat.le_refl _) _).trans ((bdn' _ _).mono (by simp)))⟩
   ·go_enter Tryz.func242, Tryz.ntmps242
    go_wp2_with fail
    go_quiet (first | (go_at_call_of 168 a; exact Calls.quiet_of_same (pHas_any hr a hhr ha _ h1 _)) | (go_at_call_of 168 i; exact Calls.quiet_of_same (pHas_any nx i hnx hi _ h2 _)))
    go_wp2_with fail
    go_ret
    exact ⟨rfl, (((Below.refl _ _).alloc (Nat.le_refl _) _).trans ((bdn' _ _).mono (by simp)))⟩
set_option maxHeartbeats 600000 in
set_option maxRecDepth 100000 in
theorem on_until (w : World) (lb : Nat) (ins : Bool) (ev : ByteArray) (more : Bool) (nx hr : Nat) (s : ByteArray) (i a b : Nat) (h : LkAt w lb ins ev more nx hr) (hnx : nx < 4294967296) (hhr : hr < 4294967296) (hi : i ≤ 31) (ha : a ≤ 31) (hb : b ≤ 31) :
  Calls Tryz.prog 242 #[.pointer (some ⟨lb, 0, none⟩), .int .i64 (i : Int), .agg #[.int .i64 9, .string s, .int .i64 (a : Int), .int .i64 (b : Int)]] w fun e w' => e = .returned (.bool (stepP 9 ins more (ev.toList == s.toList) (hr.testBit a) (hr.testBit b) (nx.testBit a) (nx.testBit i))) ∧ Below w.heap.size w w' := by
 have bc := fun o => cell_of_blk h o
 have hlt := lt_of_blk h
 clear h
 cases ins
 ·go_enter Tryz.func242, Tryz.ntmps242
  go_wp2_with fail
  go_quiet (fail)
  go_wp2_with fail
  go_ret
  exact ⟨rfl, (((Below.refl _ _).alloc (Nat.le_refl _) _).trans ((bdn' _ _).mono (by simp)))⟩
 ·cases h1 : hr.testBit b
  ·cases h2 : hr.testBit a
   ·go_enter Tryz.func242, Tryz.ntmps242
    go_wp2_with fail
    go_quiet (first | (go_at_call_of 168 b; exact Calls.quiet_of_same (pHas_any hr b hhr hb _ h1 _)) | (go_at_call_of 168 a; exact Calls.quiet_of_same (pHas_any hr a hhr ha _ h2 _)))
    go_wp2_with fail
    go_ret
    exact ⟨rfl, (((Below.refl _ _).alloc (Nat.le_refl _) _).trans ((bdn' _ _).mono (by simp)))⟩
   ·cases h3 : nx.testBit i
    ·go_enter Tryz.func242, Tryz.ntmps242
     go_wp2_with fail
     go_quiet (first | (go_at_call_of 168 b; exact Calls.quiet_of_same (pHas_any hr b hhr hb _ h1 _)) | (go_at_call_of 168 a; exact Calls.quiet_of_same (pHas_any hr a hhr ha _ h2 _)) | (go_at_call_of 168 i; exact Calls.quiet_of_same (pHas_any nx i hnx hi _ h3 _)))
     go_wp2_with fail
     go_ret
     exact ⟨rfl, (((Below.refl _ _).alloc (Nat.le_refl _) _).trans ((bdn' _ _).mono (by simp)))⟩
    ·go_enter Tryz.func242, Tryz.ntmps242
     go_wp2_with fail
     go_quiet (first | (go_at_call_of 168 b; exact Calls.quiet_of_same (pHas_any hr b hhr hb _ h1 _)) | (go_at_call_of 168 a; exact Calls.quiet_of_same (pHas_any hr a hhr ha _ h2 _)) | (go_at_call_of 168 i; exact Calls.quiet_of_same (pHas_any nx i hnx hi _ h3 _)))
     go_wp2_with fail
     go_ret
     exact ⟨rfl, (((Below.refl _ _).alloc (Nat.le_refl _) _).trans ((bdn' _ _).mono (by simp)))⟩
  ·go_enter Tryz.func242, Tryz.ntmps242
   go_wp2_with fail
   go_quiet (first | (go_at_call_of 168 b; exact Calls.quiet_of_same (pHas_any hr b hhr hb _ h1 _)))
   go_wp2_with fail
   go_ret
   exact ⟨rfl, (((Below.refl _ _).alloc (Nat.le_refl _) _).trans ((bdn' _ _).mono (by simp)))⟩
end Go.Proofs.YtidakhhekofkoaaGreatDoor
