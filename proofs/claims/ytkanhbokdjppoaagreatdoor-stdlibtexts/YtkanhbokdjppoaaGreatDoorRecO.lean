/- The kind that an operation on two kinds comes to, by the value package; no statement of the seat is proved here. -/
import Derived.Test.YtkanhbokdjppoaaGreatDoorRecM
import Derived.Handy
import Derived.Deep.Light
namespace Go.Proofs.YtkanhbokdjppoaaGreatDoor
set_option linter.unusedVariables false
open Go.RowKit
/-- The kind that numbers of two kinds come to; 0: they are not reckoned so. -/
def outc (op k k' : Int) : Int :=
  if (1 ≤ op ∧ op ≤ 5) ∧ k = k' ∧ 2 ≤ k ∧ k ≤ 9 then k
  else if (op = 1 ∨ op = 2) ∧ k' = 14 ∧ (k = 14 ∨ k = 16 ∨ k = 17) then k
  else if op = 2 ∧ k = k' ∧ 14 ≤ k ∧ k ≤ 17 then 14
  else if (op = 3 ∨ op = 4) ∧ k = 14 ∧ k' = 5 then 14 else 0
set_option maxHeartbeats 4000000 in
theorem outcome_of (op k k' : Int) (w : World) :
    Calls Tryz.prog 145 #[.int .i64 op, .int .u8 k, .int .u8 k'] w fun e w' => e = .returned (.int .u8 (outc op k k')) ∧ w' = w := by
  go_enter Tryz.func145, Tryz.ntmps145
  go_wp2
  all_goals
    go_ret
    refine ⟨ret_int ?_, rfl⟩
  all_goals
    go_light
    try simp only [beq_eq_false_iff_ne, ne_eq, beq_iff_eq] at *
    unfold outc
    (repeat' split) <;> first | rfl | omega
end Go.Proofs.YtkanhbokdjppoaaGreatDoor
