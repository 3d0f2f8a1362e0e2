/- Closed facts of SchedNobody's card, by the kernel; no statement of the seat is proved here. -/
import Derived.Test.YtoiipiapgidbiaaGreatDoorCards
import Derived.SevenTiedAt
import Derived.KernelRfl
namespace Go.Proofs.YtoiipiapgidbiaaGreatDoor.LawSchedNobody
open Go
theorem hGoes : false = Rows.schedNobodyRow.goesBy Tryz.prog := by kernel_rfl
end Go.Proofs.YtoiipiapgidbiaaGreatDoor.LawSchedNobody
