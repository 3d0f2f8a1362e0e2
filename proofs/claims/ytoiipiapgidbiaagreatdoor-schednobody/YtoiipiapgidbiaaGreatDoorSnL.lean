/- The numbers under which this translation holds the lock's functions and types, and that it holds them; no statement of the seat is proved here. -/
import Derived.Test.YtoiipiapgidbiaaGreatDoorSubG
import Derived.Conc.RwLib
import Derived.Conc.MuData
import Derived.Conc.MuLone
import Derived.KernelRfl
namespace Go.Proofs.YtoiipiapgidbiaaGreatDoor
abbrev muLink : Go.Conc.Locks.MuLink := { lock := 35, unlock := 36, ilock := 51, iunlock := 52, lockSlow := 77, unlockSlow := 80, disable := 73, enable := 75, acquire := 76, relMerge := 78, cas32 := 74, add32 := 79, tMutex := 34, tIMutex := 32, tPMutex := 101, tPIMutex := 135, tPI32 := 137, tUP := 139, tNoCopy := 29, tU32 := 30 }
theorem muLib : Go.Conc.Locks.MuLib Tryz.prog muLink :=
  ⟨Tryz.func35, Tryz.func36, Tryz.func51, Tryz.func52, Tryz.func73, Tryz.func75, Tryz.func76, Tryz.func78, Tryz.func74, Tryz.func79, Tryz.underlying32, Tryz.runUnderlying32, Tryz.sizeOf32, Tryz.isAgg32, Tryz.zeroValue32, Tryz.underlying34, Tryz.runUnderlying34, Tryz.sizeOf34, Tryz.isAgg34, Tryz.zeroValue34, Tryz.underlying101, Tryz.runUnderlying101, Tryz.sizeOf101, Tryz.isAgg101, Tryz.zeroValue101, Tryz.underlying135, Tryz.runUnderlying135, Tryz.sizeOf135, Tryz.isAgg135, Tryz.zeroValue135, Tryz.underlying137, Tryz.runUnderlying137, Tryz.sizeOf137, Tryz.isAgg137, Tryz.zeroValue137, Tryz.underlying139, Tryz.runUnderlying139, Tryz.sizeOf139, Tryz.isAgg139, Tryz.zeroValue139, Tryz.underlying29, Tryz.runUnderlying29, Tryz.sizeOf29, Tryz.isAgg29, Tryz.zeroValue29, Tryz.underlying21, Tryz.runUnderlying21, Tryz.sizeOf21, Tryz.isAgg21, Tryz.zeroValue21, (by kernel_rfl)⟩
end Go.Proofs.YtoiipiapgidbiaaGreatDoor
