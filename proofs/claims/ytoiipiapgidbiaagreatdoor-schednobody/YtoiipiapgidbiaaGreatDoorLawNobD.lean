/- SchedNobody is proved: for every time, value and inputs the statement's function returns true, and its arguments read as they did; the listed tables hold what the programs' texts lay in them (tied). -/
import Derived.Test.YtoiipiapgidbiaaGreatDoorLawNobC
import Derived.Test.YtoiipiapgidbiaaGreatDoorNoFH
import Derived.Test.YtoiipiapgidbiaaGreatDoorNoFI
import Derived.Test.YtoiipiapgidbiaaGreatDoorNoFJ
import Derived.Test.YtoiipiapgidbiaaGreatDoorTie
import Derived.Test.YtoiipiapgidbiaaGreatDoorCards
import Derived.SevenTiedAt
set_option linter.unusedVariables false
open Go.RowKit Go.ChangeShapes Go.WideShapes Go.ChangeAt Go.Joins Go.Deep
namespace Go.Proofs.YtoiipiapgidbiaaGreatDoor
/-- THE STATEMENT, ITS TABLES TIED TO THE TEXTS. -/
theorem schedNobody_proved : Rows.SchedNobodyCardSaid :=
  Claim7.holds_tied_plain_at .later [] [.data, .data, .data, .data, .listed, .data, .data, .pinned, .pinned] true (true, "ce29b5795d44e09b3e47d60ef52f5eb79e45610caa19cf14f8ecc7d5a142f80f") false
    LawSchedNobody.row_holds (fun _ h => by cases h) LawSchedNobody.hWf (fun _ h => by cases h) schedNobody_row_tie rfl ⟨rfl, rfl⟩ LawSchedNobody.hMain rfl
    (fun f fn hf hfn => by
      obtain rfl : f = 3 := Option.some.inj ((show Tryz.prog.funcNamed "relay/relaylaw23.SchedNobody" = some 3 by kernel_rfl).symm.trans hf) |>.symm
      obtain rfl : fn = Tryz.f3 := (Option.some.inj (Tryz.func3.symm.trans hfn)).symm
      exact ⟨LawSchedNobody.hLooks, fun j t ht => by
        rw [Tryz.params3] at ht
        have hm : t ∈ [3, 25, 26] := by simpa using Array.mem_of_getElem? ht
        have hall : ([3, 25, 26].all fun u => !Tryz.prog.wantsStandIn u) = true := by kernel_rfl
        exact (show Tryz.prog.wantsStandIn t = false by simpa using List.all_eq_true.1 hall t hm)⟩)
    LawSchedNobody.hGoes
end Go.Proofs.YtoiipiapgidbiaaGreatDoor
