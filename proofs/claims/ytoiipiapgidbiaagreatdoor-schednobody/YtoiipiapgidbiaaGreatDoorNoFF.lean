/- Closed facts of SchedNobody's row, by the kernel; no statement of the seat is proved here. -/
import Derived.Test.YtoiipiapgidbiaaGreatDoorRows
import Derived.JoinedOf
import Derived.KernelRfl
namespace Go.Proofs.YtoiipiapgidbiaaGreatDoor.LawSchedNobody
open Go
theorem j22 : ((Rows.schedNobodyRow.plainKeys == Tryz.prog.plainKeys)) = true := by kernel_rfl
theorem j24 : (Tryz.prog.stopsHeard) = true := by kernel_rfl
theorem j25 : (Tryz.prog.mayEnter) = true := by kernel_rfl
end Go.Proofs.YtoiipiapgidbiaaGreatDoor.LawSchedNobody
