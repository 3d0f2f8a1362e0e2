/- What the value package's signed, opposite, fitted and the document's made come to; no statement of the seat is proved here. -/
import Derived.Test.YtjnegbjgogkamaaDoorOrd
namespace Go.Proofs.YtjnegbjgogkamaaDoor
set_option linter.unusedVariables false
open Go.RowKit
abbrev E0 : ByteArray := ⟨#[]⟩
/-- A value and a fault: the value of that kind with those bits, or none and the fault. -/
abbrev RV (ok : Bool) (k b fault : Int) : Value := .tuple #[if ok then V k b E0 else V 0 0 E0, .int .i64 (if ok then 0 else fault)]
theorem RV_t {k b fault : Int} {ok : Bool} (h : ok = true) : Ending.returned (.tuple #[V k b E0, .int .i64 0]) = .returned (RV ok k b fault) := by simp [RV, h]
theorem RV_f {k b fault : Int} {ok : Bool} (h : ok = false) : Ending.returned (.tuple #[V 0 0 E0, .int .i64 fault]) = .returned (RV ok k b fault) := by simp [RV, h]
/-- A number told by a sign and a size. -/
def sgn (below : Bool) (size : Int) : Int := if below then -size else size
theorem ret_NB {p : Bool} {a n : Int} (h : p = decide (n < 0)) (g : a = n.natAbs) : Ending.returned (.agg #[.bool p, .int .u64 a]) = .returned (NB n) := by rw [h, g]
theorem sgn_not (n : Int) : sgn (!decide (n < 0)) n.natAbs = -n := by
  unfold sgn; by_cases h : n < 0
  · simp [h]; omega
  · simp [h]; omega
end Go.Proofs.YtjnegbjgogkamaaDoor
