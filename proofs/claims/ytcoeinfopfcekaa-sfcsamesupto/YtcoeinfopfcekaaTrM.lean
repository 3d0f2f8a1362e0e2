/- Expressions copied, of any depth; no statement of the seat is proved here. -/
import Derived.Test.YtcoeinfopfcekaaTrL
namespace Go.Proofs.Ytcoeinfopfcekaa
set_option linter.unusedVariables false
open Go.RowKit
theorem Exprs_nil (x : Option Addr) (c : Nat) (w : World) : Calls Try.prog 26 #[.slice x 0 c] w fun r w' => r = .returned (.slice none 0 0) ∧ Below w.heap.size w w' := by
  go_enter Try.func26, Try.ntmps26
  go_wp2_with fail
  go_loopw [3, 8] (fun out i wr => out = .slice none 0 0 ∧ i = .int .i64 0 ∧ wr = w) (fun _ _ _ => 0)
  case atStart => exact ⟨rfl, rfl, rfl⟩
  case round =>
    obtain ⟨rfl, rfl, rfl⟩ := hrel
    go_wp2
    go_ret
    exact ⟨rfl, Below.refl _ _⟩
theorem cpL_zero : CpL 0 := by
  intro w x l c hk
  obtain rfl := hk.none0
  refine (Exprs_nil x c w).mono ?_
  rintro r w' ⟨rfl, hb⟩
  exact ⟨⟨none, 0, rfl, hk.1, fun _ => rfl, fun b e => by cases e⟩, hb⟩
theorem cpL_any : ∀ d, CpL d
  | 0 => cpL_zero
  | d + 1 => cpL_of d (cpX_of d (cpL_any d))
theorem cpX_any (d : Nat) : CpX d := cpX_of d (cpL_any d)
end Go.Proofs.Ytcoeinfopfcekaa
