/- Closed facts of SchedNobody's card, by the kernel; no statement of the seat is proved here. -/
import Derived.Test.YtoiipiapgidbiaaGreatDoorCards
import Derived.SevenTiedAt
import Derived.KernelRfl
namespace Go.Proofs.YtoiipiapgidbiaaGreatDoor.LawSchedNobody
open Go
theorem hMain : Tryz.prog.mainIs = some (true, "ce29b5795d44e09b3e47d60ef52f5eb79e45610caa19cf14f8ecc7d5a142f80f".toList) := by kernel_rfl
theorem hWf : Rows.schedNobodyRow.wfByText (OpenSpec.ofChange Rows.schedNobodySpec) = true := by kernel_rfl
end Go.Proofs.YtoiipiapgidbiaaGreatDoor.LawSchedNobody
