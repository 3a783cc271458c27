/-
  DERIVED. GIVEN WITH THE SEED: THE CARDS: each row of YtidakhhekofkoaaGreatDoorRows.lean that lists a variable, with what it lists TIED to the program's text (the seventh form; the later family's looks); each row that meets fmt, with fmt's text TOLD by the authors' own Lean function (tested against real Go, not proved from fmt's source: count such statements apart). THE CARD IS WHAT COUNTS. Prove the row's statement (the work); the ties are given (YtidakhhekofkoaaGreatDoorTie.lean); close each card by the builder's one call (the guide's Derived/Test/ToyasCard.lean, 'card_holds'). Laid BY PROGRAM, IN A SANDBOX (cutbox-door.mjs). By AI agents, Wed Nov 11 2026. No macro, syntax, notation, axiom, sorry.
-/
import Derived.Test.YtidakhhekofkoaaGreatDoorRows
import GoSem.ClaimSeven
namespace Go.Proofs.YtidakhhekofkoaaGreatDoor
namespace Rows

/-- THE TIED CARD OF 'sentrylaw.Prints'. -/
def printsCard : Claim7 := { stood := { row := printsRow, standIns := [], harness := (true, "29fbd8cdfe235de8b5ba404c4314fd3d0154b368aca8f633e0ed602d7bb37e52"), looks := false }, kinds := [], alts := [], laidByText := true, laidKinds := [.data, .data, .data, .data, .data, .data], laidTests := true, laidLooks := .later }
def PrintsCardSaid : Prop := Claim7.holds Tryz.pinned (.plain (OpenSpec.ofChange printsSpec)) printsCard

/-- THE TIED CARD OF 'sentrylaw.Traces'. -/
def tracesCard : Claim7 := { stood := { row := tracesRow, standIns := [], harness := (true, "29fbd8cdfe235de8b5ba404c4314fd3d0154b368aca8f633e0ed602d7bb37e52"), looks := false }, kinds := [], alts := [], laidByText := true, laidKinds := [.data, .data, .data, .data, .data, .data], laidTests := true, laidLooks := .later }
def TracesCardSaid : Prop := Claim7.holds Tryz.pinned (.plain (OpenSpec.ofChange tracesSpec)) tracesCard

/-- THE TIED CARD OF 'sentrykeep.Again'. -/
def againCard : Claim7 := { stood := { row := againRow, standIns := [], harness := (true, "29fbd8cdfe235de8b5ba404c4314fd3d0154b368aca8f633e0ed602d7bb37e52"), looks := false }, kinds := [], alts := [], laidByText := true, laidKinds := [.data, .data, .data], laidTests := true, laidLooks := .later }
def AgainCardSaid : Prop := Claim7.holds Tryz.pinned (.plain (OpenSpec.ofChange againSpec)) againCard

/-- THE TIED CARD OF 'sentrylaw.Tables'. -/
def tablesCard : Claim7 := { stood := { row := tablesRow, standIns := [], harness := (true, "29fbd8cdfe235de8b5ba404c4314fd3d0154b368aca8f633e0ed602d7bb37e52"), looks := false }, kinds := [], alts := [], laidByText := true, laidKinds := [.data, .data, .data, .data, .data, .data], laidTests := true, laidLooks := .later }
def TablesCardSaid : Prop := Claim7.holds Tryz.pinned (.plain (OpenSpec.ofChange tablesSpec)) tablesCard

/-- THE TIED CARD OF 'sentrykeep.Least'. -/
def leastCard : Claim7 := { stood := { row := leastRow, standIns := [], harness := (true, "29fbd8cdfe235de8b5ba404c4314fd3d0154b368aca8f633e0ed602d7bb37e52"), looks := false }, kinds := [], alts := [], laidByText := true, laidKinds := [.data, .data, .data], laidTests := true, laidLooks := .later }
def LeastCardSaid : Prop := Claim7.holds Tryz.pinned (.plain (OpenSpec.ofChange leastSpec)) leastCard

/-- THE TIED CARD OF 'sentrykeep.Alike'. -/
def alikeCard : Claim7 := { stood := { row := alikeRow, standIns := [], harness := (true, "29fbd8cdfe235de8b5ba404c4314fd3d0154b368aca8f633e0ed602d7bb37e52"), looks := false }, kinds := [], alts := [], laidByText := true, laidKinds := [.data, .data, .data], laidTests := true, laidLooks := .later }
def AlikeCardSaid : Prop := Claim7.holds Tryz.pinned (.plain (OpenSpec.ofChange alikeSpec)) alikeCard

/-- THE TIED CARD OF 'sentrykeep.Back'. -/
def backCard : Claim7 := { stood := { row := backRow, standIns := [], harness := (true, "29fbd8cdfe235de8b5ba404c4314fd3d0154b368aca8f633e0ed602d7bb37e52"), looks := false }, kinds := [], alts := [], laidByText := true, laidKinds := [.data, .data], laidTests := true, laidLooks := .later }
def BackCardSaid : Prop := Claim7.holds Tryz.pinned (.plain (OpenSpec.ofChange backSpec)) backCard

/-- THE TIED CARD OF 'sentrylaw.Desks'. -/
def desksCard : Claim7 := { stood := { row := desksRow, standIns := [], harness := (true, "29fbd8cdfe235de8b5ba404c4314fd3d0154b368aca8f633e0ed602d7bb37e52"), looks := false }, kinds := [], alts := [], laidByText := true, laidKinds := [.data, .data, .data, .data, .data, .data], laidTests := true, laidLooks := .later }
def DesksCardSaid : Prop := Claim7.holds Tryz.pinned (.plain (OpenSpec.ofChange desksSpec)) desksCard

/-- THE TIED CARD OF 'sentrykeep.Watched'. -/
def watchedCard : Claim7 := { stood := { row := watchedRow, standIns := [], harness := (true, "29fbd8cdfe235de8b5ba404c4314fd3d0154b368aca8f633e0ed602d7bb37e52"), looks := false }, kinds := [], alts := [], laidByText := true, laidKinds := [.data, .data, .data], laidTests := true, laidLooks := .later }
def WatchedCardSaid : Prop := Claim7.holds Tryz.pinned (.plain (OpenSpec.ofChange watchedSpec)) watchedCard

/-- THE TIED CARD OF 'sentrylaw.All'. -/
def allCard : Claim7 := { stood := { row := allRow, standIns := [], harness := (true, "29fbd8cdfe235de8b5ba404c4314fd3d0154b368aca8f633e0ed602d7bb37e52"), looks := false }, kinds := [], alts := [], laidByText := true, laidKinds := [.data, .data, .data, .data, .data, .data], laidTests := true, laidLooks := .later }
def AllCardSaid : Prop := Claim7.holds Tryz.pinned (.plain (OpenSpec.ofChange allSpec)) allCard

/-- THE SECOND FORM's CARD OF 'sentrylaw.Prints'. -/
def printsUptoCard : Claim7 := { stood := { row := printsUptoRow, standIns := [], harness := (true, "29fbd8cdfe235de8b5ba404c4314fd3d0154b368aca8f633e0ed602d7bb37e52"), looks := false }, kinds := [], alts := [], laidByText := true, laidKinds := [.data, .data, .data, .data, .data, .data], laidTests := true, laidLooks := .later }
def PrintsUptoCardSaid : Prop := Claim7.holds Tryz.pinned (.plain (OpenSpec.upto printsSpec)) printsUptoCard

/-- THE SECOND FORM's CARD OF 'sentrylaw.Traces'. -/
def tracesUptoCard : Claim7 := { stood := { row := tracesUptoRow, standIns := [], harness := (true, "29fbd8cdfe235de8b5ba404c4314fd3d0154b368aca8f633e0ed602d7bb37e52"), looks := false }, kinds := [], alts := [], laidByText := true, laidKinds := [.data, .data, .data, .data, .data, .data], laidTests := true, laidLooks := .later }
def TracesUptoCardSaid : Prop := Claim7.holds Tryz.pinned (.plain (OpenSpec.upto tracesSpec)) tracesUptoCard

/-- THE SECOND FORM's CARD OF 'sentrykeep.Again'. -/
def againUptoCard : Claim7 := { stood := { row := againUptoRow, standIns := [], harness := (true, "29fbd8cdfe235de8b5ba404c4314fd3d0154b368aca8f633e0ed602d7bb37e52"), looks := false }, kinds := [], alts := [], laidByText := true, laidKinds := [.data, .data, .data], laidTests := true, laidLooks := .later }
def AgainUptoCardSaid : Prop := Claim7.holds Tryz.pinned (.plain (OpenSpec.upto againSpec)) againUptoCard

/-- THE SECOND FORM's CARD OF 'sentrylaw.Tables'. -/
def tablesUptoCard : Claim7 := { stood := { row := tablesUptoRow, standIns := [], harness := (true, "29fbd8cdfe235de8b5ba404c4314fd3d0154b368aca8f633e0ed602d7bb37e52"), looks := false }, kinds := [], alts := [], laidByText := true, laidKinds := [.data, .data, .data, .data, .data, .data], laidTests := true, laidLooks := .later }
def TablesUptoCardSaid : Prop := Claim7.holds Tryz.pinned (.plain (OpenSpec.upto tablesSpec)) tablesUptoCard

/-- THE SECOND FORM's CARD OF 'sentrykeep.Least'. -/
def leastUptoCard : Claim7 := { stood := { row := leastUptoRow, standIns := [], harness := (true, "29fbd8cdfe235de8b5ba404c4314fd3d0154b368aca8f633e0ed602d7bb37e52"), looks := false }, kinds := [], alts := [], laidByText := true, laidKinds := [.data, .data, .data], laidTests := true, laidLooks := .later }
def LeastUptoCardSaid : Prop := Claim7.holds Tryz.pinned (.plain (OpenSpec.upto leastSpec)) leastUptoCard

/-- THE SECOND FORM's CARD OF 'sentrykeep.Alike'. -/
def alikeUptoCard : Claim7 := { stood := { row := alikeUptoRow, standIns := [], harness := (true, "29fbd8cdfe235de8b5ba404c4314fd3d0154b368aca8f633e0ed602d7bb37e52"), looks := false }, kinds := [], alts := [], laidByText := true, laidKinds := [.data, .data, .data], laidTests := true, laidLooks := .later }
def AlikeUptoCardSaid : Prop := Claim7.holds Tryz.pinned (.plain (OpenSpec.upto alikeSpec)) alikeUptoCard

/-- THE SECOND FORM's CARD OF 'sentrykeep.Back'. -/
def backUptoCard : Claim7 := { stood := { row := backUptoRow, standIns := [], harness := (true, "29fbd8cdfe235de8b5ba404c4314fd3d0154b368aca8f633e0ed602d7bb37e52"), looks := false }, kinds := [], alts := [], laidByText := true, laidKinds := [.data, .data], laidTests := true, laidLooks := .later }
def BackUptoCardSaid : Prop := Claim7.holds Tryz.pinned (.plain (OpenSpec.upto backSpec)) backUptoCard

/-- THE SECOND FORM's CARD OF 'sentrylaw.Desks'. -/
def desksUptoCard : Claim7 := { stood := { row := desksUptoRow, standIns := [], harness := (true, "29fbd8cdfe235de8b5ba404c4314fd3d0154b368aca8f633e0ed602d7bb37e52"), looks := false }, kinds := [], alts := [], laidByText := true, laidKinds := [.data, .data, .data, .data, .data, .data], laidTests := true, laidLooks := .later }
def DesksUptoCardSaid : Prop := Claim7.holds Tryz.pinned (.plain (OpenSpec.upto desksSpec)) desksUptoCard

/-- THE SECOND FORM's CARD OF 'sentrykeep.Watched'. -/
def watchedUptoCard : Claim7 := { stood := { row := watchedUptoRow, standIns := [], harness := (true, "29fbd8cdfe235de8b5ba404c4314fd3d0154b368aca8f633e0ed602d7bb37e52"), looks := false }, kinds := [], alts := [], laidByText := true, laidKinds := [.data, .data, .data], laidTests := true, laidLooks := .later }
def WatchedUptoCardSaid : Prop := Claim7.holds Tryz.pinned (.plain (OpenSpec.upto watchedSpec)) watchedUptoCard

/-- THE SECOND FORM's CARD OF 'sentrylaw.All'. -/
def allUptoCard : Claim7 := { stood := { row := allUptoRow, standIns := [], harness := (true, "29fbd8cdfe235de8b5ba404c4314fd3d0154b368aca8f633e0ed602d7bb37e52"), looks := false }, kinds := [], alts := [], laidByText := true, laidKinds := [.data, .data, .data, .data, .data, .data], laidTests := true, laidLooks := .later }
def AllUptoCardSaid : Prop := Claim7.holds Tryz.pinned (.plain (OpenSpec.upto allSpec)) allUptoCard
end Rows
end Go.Proofs.YtidakhhekofkoaaGreatDoor
