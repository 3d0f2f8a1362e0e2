/- SchedNobody: the bare row; the card is closed in the next text. -/
import Derived.Test.YtoiipiapgidbiaaGreatDoorLawNobB
import Derived.Test.YtoiipiapgidbiaaGreatDoorNoFA
import Derived.Test.YtoiipiapgidbiaaGreatDoorNoFB
import Derived.Test.YtoiipiapgidbiaaGreatDoorNoFC
import Derived.Test.YtoiipiapgidbiaaGreatDoorNoFD
import Derived.Test.YtoiipiapgidbiaaGreatDoorNoFE
import Derived.Test.YtoiipiapgidbiaaGreatDoorNoFF
import Derived.Test.YtoiipiapgidbiaaGreatDoorNoFG
namespace Go.Proofs.YtoiipiapgidbiaaGreatDoor.LawSchedNobody
set_option linter.unusedVariables false
set_option linter.unusedSimpArgs false
open Go.RowKit Go.ChangeShapes Go.WideShapes Go.ChangeAt Go.Joins Go.Deep
theorem tt {a b : Bool} (ha : a = true) (hb : b = true) : (a && b) = true := by rw [ha, hb]; rfl
theorem closed : joinedFacts Tryz.prog 3 Tryz.f3 Rows.schedNobodySpec Rows.schedNobodyRow = true := by
  unfold joinedFacts
  exact (tt (tt (tt (tt (tt (tt (tt (tt (tt (tt (tt (tt (tt (tt (tt (tt (tt (tt (tt (tt (tt (tt (tt (tt (tt (tt (tt (tt (tt (tt (tt j0 j1) j2) j3) j4) j5) j6) j7) j8) j9) j10) j11) j12) j13) j14) j15) j16) j17) j18) j19) j20) j21) j22) j23) j24) j25) j26) j27) (by kernel_rfl)) j29) j30) j31)
theorem row_holds : Rows.SchedNobodySaid :=
  OpenClaim.holds_of_wide 3 Tryz.f3 rfl rfl rfl rfl rfl rfl rfl ⟨rfl, rfl, rfl, rfl, rfl⟩ rfl rfl rfl rfl rfl (by kernel_rfl) Tryz.func3 closed
    (of_decide_eq_true (by kernel_rfl)) (by unfold Func.isWrapper; first | (rw [if_pos (by decide +kernel)]; kernel_rfl) | (rw [if_neg (by decide +kernel)]; exact ⟨rfl, rfl⟩))
    (fun os started H enc _ => lifted os started H enc)
end Go.Proofs.YtoiipiapgidbiaaGreatDoor.LawSchedNobody
