/- What the document's Result answers; no statement of the seat is proved here. -/
import Derived.Test.YtmcmpgnkjjcocaaRecM
import Derived.Handy
import Derived.Deep.Light
namespace Go.Proofs.Ytmcmpgnkjjcocaa
set_option linter.unusedVariables false
open Go.RowKit
/-- The kind that the table has for an operation on two kinds; 0: it has no line. -/
def resK (op k k' : Int) : Int :=
  if (9 ≤ op ∧ op ≤ 14) ∧ k = k' ∧ 1 ≤ k ∧ k ≤ 19 then 1
  else if (1 ≤ op ∧ op ≤ 5) ∧ k = k' ∧ 2 ≤ k ∧ k ≤ 9 then k
  else if (1 ≤ op ∧ op ≤ 4) ∧ k = k' ∧ k = 18 then k
  else if (6 ≤ op ∧ op ≤ 8) ∧ k = k' ∧ (k = 1 ∨ 10 ≤ k ∧ k ≤ 13) then k
  else if op = 1 ∧ k = k' ∧ k = 14 then k
  else if op = 2 ∧ k = k' ∧ 14 ≤ k ∧ k ≤ 17 then 14
  else if (op = 1 ∨ op = 2) ∧ (k = 17 ∨ k = 16) ∧ k' = 14 then k
  else if (op = 3 ∨ op = 4) ∧ k = 14 ∧ k' = 5 then k else 0
theorem resK_d (op k k' : Int) (h : ¬ k = k') : resK op k k' = if (op = 1 ∨ op = 2) ∧ (k = 17 ∨ k = 16) ∧ k' = 14 then k else if (op = 3 ∨ op = 4) ∧ k = 14 ∧ k' = 5 then k else 0 := by
  unfold resK; simp [h]
theorem ops9 (op : Int) : op < 1 ∨ op = 1 ∨ op = 2 ∨ op = 3 ∨ op = 4 ∨ op = 5 ∨ (6 ≤ op ∧ op ≤ 8) ∨ (9 ≤ op ∧ op ≤ 14) ∨ 14 < op := by omega
set_option maxRecDepth 100000 in
set_option maxHeartbeats 4000000 in
theorem Result_d (op k k' : Int) (w : World) (d : (k == k') = false) :
    Calls Try.prog 18 #[.int .i64 op, .int .u8 k, .int .u8 k'] w fun e w' => e = .returned (.int .u8 (resK op k k')) ∧ w' = w := by
  rw [resK_d op k k' (by simpa using d)]
  rcases ops9 op with h | rfl | rfl | rfl | rfl | rfl | ⟨h, h'⟩ | ⟨h, h'⟩ | h
  all_goals
    go_enter Try.func18, Try.ntmps18
    go_wp2
    all_goals
      go_ret
      refine ⟨ret_int ?_, rfl⟩
    all_goals
      go_light
      try simp only [beq_eq_false_iff_ne, ne_eq, beq_iff_eq] at *
    all_goals
      (repeat' split) <;> first | rfl | omega
end Go.Proofs.Ytmcmpgnkjjcocaa
