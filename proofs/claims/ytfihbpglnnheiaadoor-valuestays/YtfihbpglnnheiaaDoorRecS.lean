/- What the document's signed and unsigned operations answer; no statement of the seat is proved here. -/
import Derived.Test.YtfihbpglnnheiaaDoorRecM
namespace Go.Proofs.YtfihbpglnnheiaaDoor
set_option linter.unusedVariables false
open Go.RowKit
section
variable (a b : Int) (w : World)
end
/-- What the document's signed operation answers. -/
def sgR (op a b : Int) : Value :=
  if (op = 4 ∨ op = 5) ∧ b = 0 then .tuple #[.int .i64 0, .int .i64 2] else if in64 (opI op a b) then .tuple #[.int .i64 (opI op a b), .int .i64 0] else .tuple #[.int .i64 0, .int .i64 1]
theorem in64_t {n : Int} (h : -9223372036854775808 ≤ n ∧ n < 9223372036854775808) : in64 n = true := by simpa [in64] using h
theorem in64_f {n : Int} (h : ¬ (-9223372036854775808 ≤ n ∧ n < 9223372036854775808)) : in64 n = false := by simpa [in64] using h
end Go.Proofs.YtfihbpglnnheiaaDoor
