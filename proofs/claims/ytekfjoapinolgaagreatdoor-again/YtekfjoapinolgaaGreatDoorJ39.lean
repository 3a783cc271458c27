/- The law's markTexts, walked. -/
import Derived.Test.YtekfjoapinolgaaGreatDoorJ38
import Derived.Lib.ItoaLen
set_option linter.unusedSimpArgs false
set_option linter.unusedVariables false
namespace Go.Proofs.YtekfjoapinolgaaGreatDoor
open Go.RowKit Go.Deep
end Go.Proofs.YtekfjoapinolgaaGreatDoor
