/- Closed facts of SchedNobody's row, by the kernel; no statement of the seat is proved here. -/
import Derived.Test.YtoiipiapgidbiaaGreatDoorRows
import Derived.JoinedOf
import Derived.KernelRfl
namespace Go.Proofs.YtoiipiapgidbiaaGreatDoor.LawSchedNobody
open Go
theorem j12 : ((Rows.schedNobodyRow.named == Tryz.prog.varsNamed 3)) = true := by kernel_rfl
end Go.Proofs.YtoiipiapgidbiaaGreatDoor.LawSchedNobody
