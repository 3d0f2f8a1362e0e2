/- What the document's unsigned operations answer; no statement of the seat is proved here. -/
import Derived.Test.YtfihbpglnnheiaaDoorRecM
import Derived.Handy
import Derived.Deep.Light
namespace Go.Proofs.YtfihbpglnnheiaaDoor
set_option linter.unusedVariables false
open Go.RowKit
section
variable (a b : Int) (w : World)
end
/-- What the document's unsigned operation answers. -/
def usR (op a b : Int) : Value :=
  if (op = 4 ∨ op = 5) ∧ b = 0 then .tuple #[.int .u64 0, .int .i64 2] else if inU (opI op a b) then .tuple #[.int .u64 (opI op a b), .int .i64 0] else .tuple #[.int .u64 0, .int .i64 1]
theorem inU_t {n : Int} (h : 0 ≤ n ∧ n < 18446744073709551616) : inU n = true := by simpa [inU] using h
theorem inU_f {n : Int} (h : ¬ (0 ≤ n ∧ n < 18446744073709551616)) : inU n = false := by simpa [inU] using h
end Go.Proofs.YtfihbpglnnheiaaDoor
