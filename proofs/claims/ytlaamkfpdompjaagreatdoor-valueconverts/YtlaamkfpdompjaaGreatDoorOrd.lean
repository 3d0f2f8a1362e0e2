/- What the value package's order comes to, and how a statement whose order Go leaves open is walked once where its calls only make memory; no statement of the seat is proved here. -/
import Derived.Test.YtlaamkfpdompjaaGreatDoorNums
import Derived.Test.YtlaamkfpdompjaaGreatDoorSubG
import Derived.BigQuiet
namespace Go.Proofs.YtlaamkfpdompjaaGreatDoor
set_option linter.unusedVariables false
open Go.RowKit
end Go.Proofs.YtlaamkfpdompjaaGreatDoor
