/-
  NARROWER THAN 'FOR EVERY INPUT', by the rows' own cells (each row's printed sentence says how): Prints: laid · Traces: laid · Again: laid · Tables: laid · Least: laid · Alike: laid · Back: laid · Desks: laid · Watched: laid · All: laid.
  DERIVED. THE GIVEN ROWS OF THIS SEAT. 10 by the template 'for every input the law returns true; each argument reads behind the call as it read before'; 0 by the template 'total and deterministic' (their statements: YtidakhhekofkoaaGreatDoorTotals.lean).
  GIVEN WITH THE SEED: the statements are not yours to turn. If you find one false, say at which input.
  Laid BY PROGRAM, IN A SANDBOX (cutbox-rows.mjs): the forced cells as the released guide's own fill.sh prints them over the translation 03d459582d9012ca… (all of the seat's roots in one cut). By AI agents, Wed Nov 11 2026. No macro, syntax, notation, axiom, sorry.
-/
import Derived.Test.YtidakhhekofkoaaGreatDoorChecked
import GoSem.Claim
import GoSem.ClaimJoined
import GoSem.ClaimMapViews
import Derived.JoinedTies
import Derived.KernelRfl
namespace Go.Proofs.YtidakhhekofkoaaGreatDoor
/- THE CELL 'sum', in the pinned program and in every row, IS THE sha256 OF THE DUMP (.gsa) THAT YtidakhhekofkoaaGreatDoorProg.lean LOADS. Nothing in Lean hashes anything: it is a label: what it is worth is what the hold of that sum in a sandbox is worth. -/
noncomputable def Tryz.pinned : Pinned := { name := "ytidakhhekofkoaagreatdoor", sum := "03d459582d9012cad91d006d98c717b5cd5876056a6f772495560152e9c8b8c2", checked := Tryz.checked }
namespace Rows
def none {H : Type} : Left H := { results := [], args := [] }

/- WHAT THE LISTED PACKAGE-LEVEL VARIABLES READ AS WHEN THE CALL BEGINS. Each datum BY PROGRAM (the guide's laid-datum.mjs) off the statement by which the dump's own 'gosem.cut.vars' lays the variable. In a bare row this is a premise. The card (YtidakhhekofkoaaGreatDoorCards.lean) ties it to the program's text. -/
def laid_math_bits_deBruijn32tab {H : Type} : DataW H := .agg [.lit (.int .u8 0), .lit (.int .u8 1), .lit (.int .u8 28), .lit (.int .u8 2), .lit (.int .u8 29), .lit (.int .u8 14), .lit (.int .u8 24), .lit (.int .u8 3), .lit (.int .u8 30), .lit (.int .u8 22), .lit (.int .u8 20), .lit (.int .u8 15), .lit (.int .u8 25), .lit (.int .u8 17), .lit (.int .u8 4), .lit (.int .u8 8), .lit (.int .u8 31), .lit (.int .u8 27), .lit (.int .u8 13), .lit (.int .u8 23), .lit (.int .u8 21), .lit (.int .u8 19), .lit (.int .u8 16), .lit (.int .u8 7), .lit (.int .u8 26), .lit (.int .u8 12), .lit (.int .u8 18), .lit (.int .u8 6), .lit (.int .u8 11), .lit (.int .u8 5), .lit (.int .u8 10), .lit (.int .u8 9)]
def laid_math_bits_deBruijn64tab {H : Type} : DataW H := .agg [.lit (.int .u8 0), .lit (.int .u8 1), .lit (.int .u8 56), .lit (.int .u8 2), .lit (.int .u8 57), .lit (.int .u8 49), .lit (.int .u8 28), .lit (.int .u8 3), .lit (.int .u8 61), .lit (.int .u8 58), .lit (.int .u8 42), .lit (.int .u8 50), .lit (.int .u8 38), .lit (.int .u8 29), .lit (.int .u8 17), .lit (.int .u8 4), .lit (.int .u8 62), .lit (.int .u8 47), .lit (.int .u8 59), .lit (.int .u8 36), .lit (.int .u8 45), .lit (.int .u8 43), .lit (.int .u8 51), .lit (.int .u8 22), .lit (.int .u8 53), .lit (.int .u8 39), .lit (.int .u8 33), .lit (.int .u8 30), .lit (.int .u8 24), .lit (.int .u8 18), .lit (.int .u8 12), .lit (.int .u8 5), .lit (.int .u8 63), .lit (.int .u8 55), .lit (.int .u8 48), .lit (.int .u8 27), .lit (.int .u8 60), .lit (.int .u8 41), .lit (.int .u8 37), .lit (.int .u8 16), .lit (.int .u8 46), .lit (.int .u8 35), .lit (.int .u8 44), .lit (.int .u8 21), .lit (.int .u8 52), .lit (.int .u8 32), .lit (.int .u8 23), .lit (.int .u8 11), .lit (.int .u8 54), .lit (.int .u8 26), .lit (.int .u8 40), .lit (.int .u8 15), .lit (.int .u8 34), .lit (.int .u8 20), .lit (.int .u8 31), .lit (.int .u8 10), .lit (.int .u8 25), .lit (.int .u8 14), .lit (.int .u8 19), .lit (.int .u8 9), .lit (.int .u8 13), .lit (.int .u8 8), .lit (.int .u8 7), .lit (.int .u8 6)]
def laid_internal_strconv_uint64pow10 {H : Type} : DataW H := .agg [.lit (.int .u64 1), .lit (.int .u64 10), .lit (.int .u64 100), .lit (.int .u64 1000), .lit (.int .u64 10000), .lit (.int .u64 100000), .lit (.int .u64 1000000), .lit (.int .u64 10000000), .lit (.int .u64 100000000), .lit (.int .u64 1000000000), .lit (.int .u64 10000000000), .lit (.int .u64 100000000000), .lit (.int .u64 1000000000000), .lit (.int .u64 10000000000000), .lit (.int .u64 100000000000000), .lit (.int .u64 1000000000000000), .lit (.int .u64 10000000000000000), .lit (.int .u64 100000000000000000), .lit (.int .u64 1000000000000000000), .lit (.int .u64 10000000000000000000)]
def laid_sentry_formula_signs {H : Type} : DataW H := .agg [.lit (.string []), .lit (.string [116, 114, 117, 101]), .lit (.string [102, 97, 108, 115, 101]), .lit (.string [101, 110, 100]), .lit (.string [33]), .lit (.string [88]), .lit (.string [78]), .lit (.string [70]), .lit (.string [71]), .lit (.string [85]), .lit (.string [38]), .lit (.string [124]), .lit (.string [45, 62])]
def laid_sentry_rules_words {H : Type} : DataW H := .agg [.agg [.lit (.string [97, 99, 116, 115]), .lit (.int .i64 4)], .agg [.lit (.string [114, 117, 108, 101]), .lit (.int .i64 5)], .agg [.lit (.string [116, 114, 117, 101]), .lit (.int .i64 6)], .agg [.lit (.string [102, 97, 108, 115, 101]), .lit (.int .i64 7)], .agg [.lit (.string [101, 110, 100]), .lit (.int .i64 8)]]
def laid_sentry_rules_signs {H : Type} : DataW H := .agg [.agg [.lit (.string [88]), .lit (.int .i64 9)], .agg [.lit (.string [78]), .lit (.int .i64 10)], .agg [.lit (.string [70]), .lit (.int .i64 11)], .agg [.lit (.string [71]), .lit (.int .i64 12)], .agg [.lit (.string [85]), .lit (.int .i64 13)], .agg [.lit (.string [45, 62]), .lit (.int .i64 14)], .agg [.lit (.string [124]), .lit (.int .i64 15)], .agg [.lit (.string [38]), .lit (.int .i64 16)], .agg [.lit (.string [33]), .lit (.int .i64 17)], .agg [.lit (.string [40]), .lit (.int .i64 18)], .agg [.lit (.string [41]), .lit (.int .i64 19)], .agg [.lit (.string [44]), .lit (.int .i64 20)], .agg [.lit (.string [59]), .lit (.int .i64 21)]]

/-- 'sentrylaw.Prints': WHATEVER THE INPUT: true; the input reads as it did. -/
def printsSpec : ChangeSpec := { name := "prints", fn := fun _ => fun
  | [d] => { results := [.lit (.bool true)], args := [d] }
  | _ => none }
def printsRow : OpenClaim := { program := "ytidakhhekofkoaagreatdoor", sum := "03d459582d9012cad91d006d98c717b5cd5876056a6f772495560152e9c8b8c2", func := "sentry/sentrylaw.Prints", spec := "prints", inPlace := ["internal/abi.NoEscape", "internal/bytealg.MakeNoZero", "internal/bytealg.IndexByteString", "internal/bytealg.IndexString"], unfollowed := true, recurses := true, named := ["sentry/rules.signs", "sentry/rules.words", "sentry/formula.signs", "internal/strconv.uint64pow10", "math/bits.deBruijn32tab", "math/bits.deBruijn64tab", "internal/bytealg.MaxLen"], apart := false, laid := [("math/bits.deBruijn32tab", laid_math_bits_deBruijn32tab), ("math/bits.deBruijn64tab", laid_math_bits_deBruijn64tab), ("internal/strconv.uint64pow10", laid_internal_strconv_uint64pow10), ("sentry/formula.signs", laid_sentry_formula_signs), ("sentry/rules.words", laid_sentry_rules_words), ("sentry/rules.signs", laid_sentry_rules_signs)] }
def PrintsSaid : Prop := printsRow.holds Tryz.pinned (OpenSpec.ofChange printsSpec)

/-- ITS FALSE NEIGHBOUR: 'it returns false'. Refute it at one input. -/
def printsWrong : ChangeSpec := { name := "prints", fn := fun _ => fun
  | [d] => { results := [.lit (.bool false)], args := [d] }
  | _ => none }
def PrintsWrongFalsely : Prop := printsRow.holds Tryz.pinned (OpenSpec.ofChange printsWrong)

/-- 'sentrylaw.Traces': WHATEVER THE INPUT: true; the input reads as it did. -/
def tracesSpec : ChangeSpec := { name := "traces", fn := fun _ => fun
  | [d] => { results := [.lit (.bool true)], args := [d] }
  | _ => none }
def tracesRow : OpenClaim := { program := "ytidakhhekofkoaagreatdoor", sum := "03d459582d9012cad91d006d98c717b5cd5876056a6f772495560152e9c8b8c2", func := "sentry/sentrylaw.Traces", spec := "traces", inPlace := ["internal/abi.NoEscape", "internal/bytealg.MakeNoZero", "internal/bytealg.IndexByteString", "internal/bytealg.IndexString"], unfollowed := true, recurses := true, named := ["sentry/rules.signs", "sentry/rules.words", "sentry/formula.signs", "internal/strconv.uint64pow10", "math/bits.deBruijn32tab", "math/bits.deBruijn64tab", "internal/bytealg.MaxLen"], apart := false, laid := [("math/bits.deBruijn32tab", laid_math_bits_deBruijn32tab), ("math/bits.deBruijn64tab", laid_math_bits_deBruijn64tab), ("internal/strconv.uint64pow10", laid_internal_strconv_uint64pow10), ("sentry/formula.signs", laid_sentry_formula_signs), ("sentry/rules.words", laid_sentry_rules_words), ("sentry/rules.signs", laid_sentry_rules_signs)] }
def TracesSaid : Prop := tracesRow.holds Tryz.pinned (OpenSpec.ofChange tracesSpec)

/-- ITS FALSE NEIGHBOUR: 'it returns false'. Refute it at one input. -/
def tracesWrong : ChangeSpec := { name := "traces", fn := fun _ => fun
  | [d] => { results := [.lit (.bool false)], args := [d] }
  | _ => none }
def TracesWrongFalsely : Prop := tracesRow.holds Tryz.pinned (OpenSpec.ofChange tracesWrong)

/-- 'sentrykeep.Again': WHATEVER THE INPUT: true; the input reads as it did. -/
def againSpec : ChangeSpec := { name := "again", fn := fun _ => fun
  | [d1, d2] => { results := [.lit (.bool true)], args := [d1, d2] }
  | _ => none }
def againRow : OpenClaim := { program := "ytidakhhekofkoaagreatdoor", sum := "03d459582d9012cad91d006d98c717b5cd5876056a6f772495560152e9c8b8c2", func := "sentry/sentrykeep.Again", spec := "again", inPlace := ["internal/abi.NoEscape", "internal/bytealg.MakeNoZero"], unfollowed := true, recurses := true, named := ["sentry/rules.signs", "sentry/rules.words", "sentry/formula.signs"], apart := false, laid := [("sentry/formula.signs", laid_sentry_formula_signs), ("sentry/rules.words", laid_sentry_rules_words), ("sentry/rules.signs", laid_sentry_rules_signs)] }
def AgainSaid : Prop := againRow.holds Tryz.pinned (OpenSpec.ofChange againSpec)

/-- ITS FALSE NEIGHBOUR: 'it returns false'. Refute it at one input. -/
def againWrong : ChangeSpec := { name := "again", fn := fun _ => fun
  | [d1, d2] => { results := [.lit (.bool false)], args := [d1, d2] }
  | _ => none }
def AgainWrongFalsely : Prop := againRow.holds Tryz.pinned (OpenSpec.ofChange againWrong)

/-- 'sentrylaw.Tables': WHATEVER THE INPUT: true; the input reads as it did. -/
def tablesSpec : ChangeSpec := { name := "tables", fn := fun _ => fun
  | [d] => { results := [.lit (.bool true)], args := [d] }
  | _ => none }
def tablesRow : OpenClaim := { program := "ytidakhhekofkoaagreatdoor", sum := "03d459582d9012cad91d006d98c717b5cd5876056a6f772495560152e9c8b8c2", func := "sentry/sentrylaw.Tables", spec := "tables", inPlace := ["internal/abi.NoEscape", "internal/bytealg.MakeNoZero", "internal/bytealg.IndexByteString", "internal/bytealg.IndexString"], unfollowed := true, recurses := true, named := ["sentry/rules.signs", "sentry/rules.words", "sentry/formula.signs", "internal/strconv.uint64pow10", "math/bits.deBruijn32tab", "math/bits.deBruijn64tab", "internal/bytealg.MaxLen"], apart := false, laid := [("math/bits.deBruijn32tab", laid_math_bits_deBruijn32tab), ("math/bits.deBruijn64tab", laid_math_bits_deBruijn64tab), ("internal/strconv.uint64pow10", laid_internal_strconv_uint64pow10), ("sentry/formula.signs", laid_sentry_formula_signs), ("sentry/rules.words", laid_sentry_rules_words), ("sentry/rules.signs", laid_sentry_rules_signs)] }
def TablesSaid : Prop := tablesRow.holds Tryz.pinned (OpenSpec.ofChange tablesSpec)

/-- ITS FALSE NEIGHBOUR: 'it returns false'. Refute it at one input. -/
def tablesWrong : ChangeSpec := { name := "tables", fn := fun _ => fun
  | [d] => { results := [.lit (.bool false)], args := [d] }
  | _ => none }
def TablesWrongFalsely : Prop := tablesRow.holds Tryz.pinned (OpenSpec.ofChange tablesWrong)

/-- 'sentrykeep.Least': WHATEVER THE INPUT: true; the input reads as it did. -/
def leastSpec : ChangeSpec := { name := "least", fn := fun _ => fun
  | [d1, d2] => { results := [.lit (.bool true)], args := [d1, d2] }
  | _ => none }
def leastRow : OpenClaim := { program := "ytidakhhekofkoaagreatdoor", sum := "03d459582d9012cad91d006d98c717b5cd5876056a6f772495560152e9c8b8c2", func := "sentry/sentrykeep.Least", spec := "least", inPlace := ["internal/abi.NoEscape", "internal/bytealg.MakeNoZero", "internal/bytealg.IndexByteString", "internal/bytealg.IndexString"], unfollowed := true, recurses := true, named := ["sentry/rules.signs", "sentry/rules.words", "sentry/formula.signs", "internal/bytealg.MaxLen"], apart := false, laid := [("sentry/formula.signs", laid_sentry_formula_signs), ("sentry/rules.words", laid_sentry_rules_words), ("sentry/rules.signs", laid_sentry_rules_signs)] }
def LeastSaid : Prop := leastRow.holds Tryz.pinned (OpenSpec.ofChange leastSpec)

/-- ITS FALSE NEIGHBOUR: 'it returns false'. Refute it at one input. -/
def leastWrong : ChangeSpec := { name := "least", fn := fun _ => fun
  | [d1, d2] => { results := [.lit (.bool false)], args := [d1, d2] }
  | _ => none }
def LeastWrongFalsely : Prop := leastRow.holds Tryz.pinned (OpenSpec.ofChange leastWrong)

/-- 'sentrykeep.Alike': WHATEVER THE INPUT: true; the input reads as it did. -/
def alikeSpec : ChangeSpec := { name := "alike", fn := fun _ => fun
  | [d1, d2] => { results := [.lit (.bool true)], args := [d1, d2] }
  | _ => none }
def alikeRow : OpenClaim := { program := "ytidakhhekofkoaagreatdoor", sum := "03d459582d9012cad91d006d98c717b5cd5876056a6f772495560152e9c8b8c2", func := "sentry/sentrykeep.Alike", spec := "alike", inPlace := ["internal/abi.NoEscape", "internal/bytealg.MakeNoZero", "internal/bytealg.IndexByteString", "internal/bytealg.IndexString"], unfollowed := true, recurses := true, named := ["sentry/rules.signs", "sentry/rules.words", "sentry/formula.signs", "internal/bytealg.MaxLen"], apart := false, laid := [("sentry/formula.signs", laid_sentry_formula_signs), ("sentry/rules.words", laid_sentry_rules_words), ("sentry/rules.signs", laid_sentry_rules_signs)] }
def AlikeSaid : Prop := alikeRow.holds Tryz.pinned (OpenSpec.ofChange alikeSpec)

/-- ITS FALSE NEIGHBOUR: 'it returns false'. Refute it at one input. -/
def alikeWrong : ChangeSpec := { name := "alike", fn := fun _ => fun
  | [d1, d2] => { results := [.lit (.bool false)], args := [d1, d2] }
  | _ => none }
def AlikeWrongFalsely : Prop := alikeRow.holds Tryz.pinned (OpenSpec.ofChange alikeWrong)

/-- 'sentrykeep.Back': WHATEVER THE INPUT: true; the input reads as it did. -/
def backSpec : ChangeSpec := { name := "back", fn := fun _ => fun
  | [d1, d2, d3, d4] => { results := [.lit (.bool true)], args := [d1, d2, d3, d4] }
  | _ => none }
def backRow : OpenClaim := { program := "ytidakhhekofkoaagreatdoor", sum := "03d459582d9012cad91d006d98c717b5cd5876056a6f772495560152e9c8b8c2", func := "sentry/sentrykeep.Back", spec := "back", inPlace := ["internal/bytealg.IndexByteString", "internal/bytealg.IndexString"], unfollowed := true, recurses := true, named := ["sentry/rules.signs", "sentry/rules.words", "internal/bytealg.MaxLen"], apart := false, laid := [("sentry/rules.words", laid_sentry_rules_words), ("sentry/rules.signs", laid_sentry_rules_signs)] }
def BackSaid : Prop := backRow.holds Tryz.pinned (OpenSpec.ofChange backSpec)

/-- ITS FALSE NEIGHBOUR: 'it returns false'. Refute it at one input. -/
def backWrong : ChangeSpec := { name := "back", fn := fun _ => fun
  | [d1, d2, d3, d4] => { results := [.lit (.bool false)], args := [d1, d2, d3, d4] }
  | _ => none }
def BackWrongFalsely : Prop := backRow.holds Tryz.pinned (OpenSpec.ofChange backWrong)

/-- 'sentrylaw.Desks': WHATEVER THE INPUT: true; the input reads as it did. -/
def desksSpec : ChangeSpec := { name := "desks", fn := fun _ => fun
  | [d] => { results := [.lit (.bool true)], args := [d] }
  | _ => none }
def desksRow : OpenClaim := { program := "ytidakhhekofkoaagreatdoor", sum := "03d459582d9012cad91d006d98c717b5cd5876056a6f772495560152e9c8b8c2", func := "sentry/sentrylaw.Desks", spec := "desks", inPlace := ["internal/abi.NoEscape", "internal/bytealg.MakeNoZero", "internal/bytealg.IndexByteString", "internal/bytealg.IndexString"], unfollowed := true, recurses := true, named := ["sentry/rules.signs", "sentry/rules.words", "sentry/formula.signs", "internal/strconv.uint64pow10", "math/bits.deBruijn32tab", "math/bits.deBruijn64tab", "internal/bytealg.MaxLen"], apart := false, laid := [("math/bits.deBruijn32tab", laid_math_bits_deBruijn32tab), ("math/bits.deBruijn64tab", laid_math_bits_deBruijn64tab), ("internal/strconv.uint64pow10", laid_internal_strconv_uint64pow10), ("sentry/formula.signs", laid_sentry_formula_signs), ("sentry/rules.words", laid_sentry_rules_words), ("sentry/rules.signs", laid_sentry_rules_signs)] }
def DesksSaid : Prop := desksRow.holds Tryz.pinned (OpenSpec.ofChange desksSpec)

/-- ITS FALSE NEIGHBOUR: 'it returns false'. Refute it at one input. -/
def desksWrong : ChangeSpec := { name := "desks", fn := fun _ => fun
  | [d] => { results := [.lit (.bool false)], args := [d] }
  | _ => none }
def DesksWrongFalsely : Prop := desksRow.holds Tryz.pinned (OpenSpec.ofChange desksWrong)

/-- 'sentrykeep.Watched': WHATEVER THE INPUT: true; the input reads as it did. -/
def watchedSpec : ChangeSpec := { name := "watched", fn := fun _ => fun
  | [d1, d2] => { results := [.lit (.bool true)], args := [d1, d2] }
  | _ => none }
def watchedRow : OpenClaim := { program := "ytidakhhekofkoaagreatdoor", sum := "03d459582d9012cad91d006d98c717b5cd5876056a6f772495560152e9c8b8c2", func := "sentry/sentrykeep.Watched", spec := "watched", inPlace := ["internal/abi.NoEscape", "internal/bytealg.MakeNoZero", "internal/bytealg.IndexByteString", "internal/bytealg.IndexString"], unfollowed := true, recurses := true, named := ["sentry/rules.signs", "sentry/rules.words", "sentry/formula.signs", "internal/bytealg.MaxLen"], apart := false, laid := [("sentry/formula.signs", laid_sentry_formula_signs), ("sentry/rules.words", laid_sentry_rules_words), ("sentry/rules.signs", laid_sentry_rules_signs)] }
def WatchedSaid : Prop := watchedRow.holds Tryz.pinned (OpenSpec.ofChange watchedSpec)

/-- ITS FALSE NEIGHBOUR: 'it returns false'. Refute it at one input. -/
def watchedWrong : ChangeSpec := { name := "watched", fn := fun _ => fun
  | [d1, d2] => { results := [.lit (.bool false)], args := [d1, d2] }
  | _ => none }
def WatchedWrongFalsely : Prop := watchedRow.holds Tryz.pinned (OpenSpec.ofChange watchedWrong)

/-- 'sentrylaw.All': WHATEVER THE INPUT: true; the input reads as it did. -/
def allSpec : ChangeSpec := { name := "all", fn := fun _ => fun
  | [d] => { results := [.lit (.bool true)], args := [d] }
  | _ => none }
def allRow : OpenClaim := { program := "ytidakhhekofkoaagreatdoor", sum := "03d459582d9012cad91d006d98c717b5cd5876056a6f772495560152e9c8b8c2", func := "sentry/sentrylaw.All", spec := "all", inPlace := ["internal/abi.NoEscape", "internal/bytealg.MakeNoZero", "internal/bytealg.IndexByteString", "internal/bytealg.IndexString"], unfollowed := true, recurses := true, named := ["sentry/rules.signs", "sentry/rules.words", "sentry/formula.signs", "internal/strconv.uint64pow10", "math/bits.deBruijn32tab", "math/bits.deBruijn64tab", "internal/bytealg.MaxLen"], apart := false, laid := [("math/bits.deBruijn32tab", laid_math_bits_deBruijn32tab), ("math/bits.deBruijn64tab", laid_math_bits_deBruijn64tab), ("internal/strconv.uint64pow10", laid_internal_strconv_uint64pow10), ("sentry/formula.signs", laid_sentry_formula_signs), ("sentry/rules.words", laid_sentry_rules_words), ("sentry/rules.signs", laid_sentry_rules_signs)] }
def AllSaid : Prop := allRow.holds Tryz.pinned (OpenSpec.ofChange allSpec)

/-- ITS FALSE NEIGHBOUR: 'it returns false'. Refute it at one input. -/
def allWrong : ChangeSpec := { name := "all", fn := fun _ => fun
  | [d] => { results := [.lit (.bool false)], args := [d] }
  | _ => none }
def AllWrongFalsely : Prop := allRow.holds Tryz.pinned (OpenSpec.ofChange allWrong)

/- THE SECOND FORM. 'bulk': how many values and letters a reading holds, each counted each time it is reached (what is shared counts as often as it is met; a slice's spare places count too). A statement '..UptoSaid' is the law's where the arguments, and the package variables that the reading takes, are together of bulk at most 1048576: NARROWER than '..Said'. Prove '..Said' where nothing that the law and all that it calls make is longer than what came in: it says more and counts as full. Else prove '..UptoSaid'. A law counts once. -/
mutual
def uptoBulk {H : Type} : DataW H → Nat
  | .lit (.string bytes) => bytes.length + 1
  | .lit _ => 1
  | .nil => 1
  | .ptr d => uptoBulk d + 1
  | .slice elems spare => uptoBulkAll elems + uptoBulkAll spare + 1
  | .agg parts => uptoBulkAll parts + 1
  | .iface _ d => uptoBulk d + 1
  | .map entries => uptoBulkEntries entries + 1
  | .held _ => 1
def uptoBulkAll {H : Type} : List (DataW H) → Nat
  | [] => 0
  | d :: r => uptoBulk d + uptoBulkAll r
def uptoBulkEntries {H : Type} : List (Lit × DataW H) → Nat
  | [] => 0
  | x :: r => uptoBulkEntry x + uptoBulkEntries r
def uptoBulkEntry {H : Type} : Lit × DataW H → Nat
  | (.string bytes, d) => bytes.length + uptoBulk d + 1
  | (_, d) => uptoBulk d + 1
 end
def uptoSmall : (H : Type) → List (DataW H) → Bool := fun _ ds => decide (uptoBulkAll ds ≤ 1048576)
def OpenSpec.upto (s : _root_.Go.ChangeSpec) : _root_.Go.OpenSpec := { _root_.Go.OpenSpec.ofChange s with cond := some uptoSmall }

/-- 'sentrylaw.Prints', WHERE WHAT IT READS IS OF BULK AT MOST 1048576: true; the input reads as it did. -/
def printsUptoRow : OpenClaim := { program := "ytidakhhekofkoaagreatdoor", sum := "03d459582d9012cad91d006d98c717b5cd5876056a6f772495560152e9c8b8c2", func := "sentry/sentrylaw.Prints", spec := "prints", inPlace := ["internal/abi.NoEscape", "internal/bytealg.MakeNoZero", "internal/bytealg.IndexByteString", "internal/bytealg.IndexString"], unfollowed := true, recurses := true, named := ["sentry/rules.signs", "sentry/rules.words", "sentry/formula.signs", "internal/strconv.uint64pow10", "math/bits.deBruijn32tab", "math/bits.deBruijn64tab", "internal/bytealg.MaxLen"], apart := false, laid := [("math/bits.deBruijn32tab", laid_math_bits_deBruijn32tab), ("math/bits.deBruijn64tab", laid_math_bits_deBruijn64tab), ("internal/strconv.uint64pow10", laid_internal_strconv_uint64pow10), ("sentry/formula.signs", laid_sentry_formula_signs), ("sentry/rules.words", laid_sentry_rules_words), ("sentry/rules.signs", laid_sentry_rules_signs)], narrowed := true }
def PrintsUptoSaid : Prop := printsUptoRow.holds Tryz.pinned (OpenSpec.upto printsSpec)

/-- 'sentrylaw.Traces', WHERE WHAT IT READS IS OF BULK AT MOST 1048576: true; the input reads as it did. -/
def tracesUptoRow : OpenClaim := { program := "ytidakhhekofkoaagreatdoor", sum := "03d459582d9012cad91d006d98c717b5cd5876056a6f772495560152e9c8b8c2", func := "sentry/sentrylaw.Traces", spec := "traces", inPlace := ["internal/abi.NoEscape", "internal/bytealg.MakeNoZero", "internal/bytealg.IndexByteString", "internal/bytealg.IndexString"], unfollowed := true, recurses := true, named := ["sentry/rules.signs", "sentry/rules.words", "sentry/formula.signs", "internal/strconv.uint64pow10", "math/bits.deBruijn32tab", "math/bits.deBruijn64tab", "internal/bytealg.MaxLen"], apart := false, laid := [("math/bits.deBruijn32tab", laid_math_bits_deBruijn32tab), ("math/bits.deBruijn64tab", laid_math_bits_deBruijn64tab), ("internal/strconv.uint64pow10", laid_internal_strconv_uint64pow10), ("sentry/formula.signs", laid_sentry_formula_signs), ("sentry/rules.words", laid_sentry_rules_words), ("sentry/rules.signs", laid_sentry_rules_signs)], narrowed := true }
def TracesUptoSaid : Prop := tracesUptoRow.holds Tryz.pinned (OpenSpec.upto tracesSpec)

/-- 'sentrykeep.Again', WHERE WHAT IT READS IS OF BULK AT MOST 1048576: true; the input reads as it did. -/
def againUptoRow : OpenClaim := { program := "ytidakhhekofkoaagreatdoor", sum := "03d459582d9012cad91d006d98c717b5cd5876056a6f772495560152e9c8b8c2", func := "sentry/sentrykeep.Again", spec := "again", inPlace := ["internal/abi.NoEscape", "internal/bytealg.MakeNoZero"], unfollowed := true, recurses := true, named := ["sentry/rules.signs", "sentry/rules.words", "sentry/formula.signs"], apart := false, laid := [("sentry/formula.signs", laid_sentry_formula_signs), ("sentry/rules.words", laid_sentry_rules_words), ("sentry/rules.signs", laid_sentry_rules_signs)], narrowed := true }
def AgainUptoSaid : Prop := againUptoRow.holds Tryz.pinned (OpenSpec.upto againSpec)

/-- 'sentrylaw.Tables', WHERE WHAT IT READS IS OF BULK AT MOST 1048576: true; the input reads as it did. -/
def tablesUptoRow : OpenClaim := { program := "ytidakhhekofkoaagreatdoor", sum := "03d459582d9012cad91d006d98c717b5cd5876056a6f772495560152e9c8b8c2", func := "sentry/sentrylaw.Tables", spec := "tables", inPlace := ["internal/abi.NoEscape", "internal/bytealg.MakeNoZero", "internal/bytealg.IndexByteString", "internal/bytealg.IndexString"], unfollowed := true, recurses := true, named := ["sentry/rules.signs", "sentry/rules.words", "sentry/formula.signs", "internal/strconv.uint64pow10", "math/bits.deBruijn32tab", "math/bits.deBruijn64tab", "internal/bytealg.MaxLen"], apart := false, laid := [("math/bits.deBruijn32tab", laid_math_bits_deBruijn32tab), ("math/bits.deBruijn64tab", laid_math_bits_deBruijn64tab), ("internal/strconv.uint64pow10", laid_internal_strconv_uint64pow10), ("sentry/formula.signs", laid_sentry_formula_signs), ("sentry/rules.words", laid_sentry_rules_words), ("sentry/rules.signs", laid_sentry_rules_signs)], narrowed := true }
def TablesUptoSaid : Prop := tablesUptoRow.holds Tryz.pinned (OpenSpec.upto tablesSpec)

/-- 'sentrykeep.Least', WHERE WHAT IT READS IS OF BULK AT MOST 1048576: true; the input reads as it did. -/
def leastUptoRow : OpenClaim := { program := "ytidakhhekofkoaagreatdoor", sum := "03d459582d9012cad91d006d98c717b5cd5876056a6f772495560152e9c8b8c2", func := "sentry/sentrykeep.Least", spec := "least", inPlace := ["internal/abi.NoEscape", "internal/bytealg.MakeNoZero", "internal/bytealg.IndexByteString", "internal/bytealg.IndexString"], unfollowed := true, recurses := true, named := ["sentry/rules.signs", "sentry/rules.words", "sentry/formula.signs", "internal/bytealg.MaxLen"], apart := false, laid := [("sentry/formula.signs", laid_sentry_formula_signs), ("sentry/rules.words", laid_sentry_rules_words), ("sentry/rules.signs", laid_sentry_rules_signs)], narrowed := true }
def LeastUptoSaid : Prop := leastUptoRow.holds Tryz.pinned (OpenSpec.upto leastSpec)

/-- 'sentrykeep.Alike', WHERE WHAT IT READS IS OF BULK AT MOST 1048576: true; the input reads as it did. -/
def alikeUptoRow : OpenClaim := { program := "ytidakhhekofkoaagreatdoor", sum := "03d459582d9012cad91d006d98c717b5cd5876056a6f772495560152e9c8b8c2", func := "sentry/sentrykeep.Alike", spec := "alike", inPlace := ["internal/abi.NoEscape", "internal/bytealg.MakeNoZero", "internal/bytealg.IndexByteString", "internal/bytealg.IndexString"], unfollowed := true, recurses := true, named := ["sentry/rules.signs", "sentry/rules.words", "sentry/formula.signs", "internal/bytealg.MaxLen"], apart := false, laid := [("sentry/formula.signs", laid_sentry_formula_signs), ("sentry/rules.words", laid_sentry_rules_words), ("sentry/rules.signs", laid_sentry_rules_signs)], narrowed := true }
def AlikeUptoSaid : Prop := alikeUptoRow.holds Tryz.pinned (OpenSpec.upto alikeSpec)

/-- 'sentrykeep.Back', WHERE WHAT IT READS IS OF BULK AT MOST 1048576: true; the input reads as it did. -/
def backUptoRow : OpenClaim := { program := "ytidakhhekofkoaagreatdoor", sum := "03d459582d9012cad91d006d98c717b5cd5876056a6f772495560152e9c8b8c2", func := "sentry/sentrykeep.Back", spec := "back", inPlace := ["internal/bytealg.IndexByteString", "internal/bytealg.IndexString"], unfollowed := true, recurses := true, named := ["sentry/rules.signs", "sentry/rules.words", "internal/bytealg.MaxLen"], apart := false, laid := [("sentry/rules.words", laid_sentry_rules_words), ("sentry/rules.signs", laid_sentry_rules_signs)], narrowed := true }
def BackUptoSaid : Prop := backUptoRow.holds Tryz.pinned (OpenSpec.upto backSpec)

/-- 'sentrylaw.Desks', WHERE WHAT IT READS IS OF BULK AT MOST 1048576: true; the input reads as it did. -/
def desksUptoRow : OpenClaim := { program := "ytidakhhekofkoaagreatdoor", sum := "03d459582d9012cad91d006d98c717b5cd5876056a6f772495560152e9c8b8c2", func := "sentry/sentrylaw.Desks", spec := "desks", inPlace := ["internal/abi.NoEscape", "internal/bytealg.MakeNoZero", "internal/bytealg.IndexByteString", "internal/bytealg.IndexString"], unfollowed := true, recurses := true, named := ["sentry/rules.signs", "sentry/rules.words", "sentry/formula.signs", "internal/strconv.uint64pow10", "math/bits.deBruijn32tab", "math/bits.deBruijn64tab", "internal/bytealg.MaxLen"], apart := false, laid := [("math/bits.deBruijn32tab", laid_math_bits_deBruijn32tab), ("math/bits.deBruijn64tab", laid_math_bits_deBruijn64tab), ("internal/strconv.uint64pow10", laid_internal_strconv_uint64pow10), ("sentry/formula.signs", laid_sentry_formula_signs), ("sentry/rules.words", laid_sentry_rules_words), ("sentry/rules.signs", laid_sentry_rules_signs)], narrowed := true }
def DesksUptoSaid : Prop := desksUptoRow.holds Tryz.pinned (OpenSpec.upto desksSpec)

/-- 'sentrykeep.Watched', WHERE WHAT IT READS IS OF BULK AT MOST 1048576: true; the input reads as it did. -/
def watchedUptoRow : OpenClaim := { program := "ytidakhhekofkoaagreatdoor", sum := "03d459582d9012cad91d006d98c717b5cd5876056a6f772495560152e9c8b8c2", func := "sentry/sentrykeep.Watched", spec := "watched", inPlace := ["internal/abi.NoEscape", "internal/bytealg.MakeNoZero", "internal/bytealg.IndexByteString", "internal/bytealg.IndexString"], unfollowed := true, recurses := true, named := ["sentry/rules.signs", "sentry/rules.words", "sentry/formula.signs", "internal/bytealg.MaxLen"], apart := false, laid := [("sentry/formula.signs", laid_sentry_formula_signs), ("sentry/rules.words", laid_sentry_rules_words), ("sentry/rules.signs", laid_sentry_rules_signs)], narrowed := true }
def WatchedUptoSaid : Prop := watchedUptoRow.holds Tryz.pinned (OpenSpec.upto watchedSpec)

/-- 'sentrylaw.All', WHERE WHAT IT READS IS OF BULK AT MOST 1048576: true; the input reads as it did. -/
def allUptoRow : OpenClaim := { program := "ytidakhhekofkoaagreatdoor", sum := "03d459582d9012cad91d006d98c717b5cd5876056a6f772495560152e9c8b8c2", func := "sentry/sentrylaw.All", spec := "all", inPlace := ["internal/abi.NoEscape", "internal/bytealg.MakeNoZero", "internal/bytealg.IndexByteString", "internal/bytealg.IndexString"], unfollowed := true, recurses := true, named := ["sentry/rules.signs", "sentry/rules.words", "sentry/formula.signs", "internal/strconv.uint64pow10", "math/bits.deBruijn32tab", "math/bits.deBruijn64tab", "internal/bytealg.MaxLen"], apart := false, laid := [("math/bits.deBruijn32tab", laid_math_bits_deBruijn32tab), ("math/bits.deBruijn64tab", laid_math_bits_deBruijn64tab), ("internal/strconv.uint64pow10", laid_internal_strconv_uint64pow10), ("sentry/formula.signs", laid_sentry_formula_signs), ("sentry/rules.words", laid_sentry_rules_words), ("sentry/rules.signs", laid_sentry_rules_signs)], narrowed := true }
def AllUptoSaid : Prop := allUptoRow.holds Tryz.pinned (OpenSpec.upto allSpec)

end Rows
end Go.Proofs.YtidakhhekofkoaaGreatDoor
