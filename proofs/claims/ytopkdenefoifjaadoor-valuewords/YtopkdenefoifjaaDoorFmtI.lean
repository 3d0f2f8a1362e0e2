/- internal/strconv.formatBits at base 16; no statement of the seat is proved here. -/
import Derived.Test.YtopkdenefoifjaaDoorFmtH
namespace Go.Proofs.YtopkdenefoifjaaDoor
set_option linter.unusedVariables false
open Go.RowKit Go.Sort Go.Lib
/-- The table's place that the number of noughts behind 16 is read from. -/
abbrev Tz4 (w : World) : Prop := w.cell? ⟨8, 15, none⟩ = some (.int .u8 4)
set_option maxHeartbeats 1000000 in
theorem TrailingZeros64_16 (w : World) (h : Tz4 w) : Calls Tryd.prog 72 #[.int .u64 16] w fun e w' => e = .returned (.int .i64 4) ∧ w' = w := by
  have e : IntKind.u64.wrap (bits BinOp.and IntKind.u64 16 (IntKind.u64.wrap (-16)) * 285870213051353865) / 288230376151711744 = 15 := by decide +kernel
  go_enter Tryd.func72, Tryd.ntmps72
  go_wp2
  go_ret
  exact ⟨rfl, rfl⟩
theorem TrailingZeros_16 (w : World) (h : Tz4 w) : Calls Tryd.prog 67 #[.int .u64 16] w fun e w' => e = .returned (.int .i64 4) ∧ w' = w := by
  go_enter Tryd.func67, Tryd.ntmps67
  go_wp2_with (go_at_call 72; refine (TrailingZeros64_16 _ h).mono ?_; rintro e w' ⟨rfl, rfl⟩)
  go_ret
  exact ⟨rfl, rfl⟩
theorem isPow_16 (w : World) : Calls Tryd.prog 66 #[.int .i64 16] w fun e w' => e = .returned (.bool true) ∧ w' = w := by
  go_enter Tryd.func66, Tryd.ntmps66
  go_wp2
  go_ret
  exact ⟨rfl, rfl⟩
end Go.Proofs.YtopkdenefoifjaaDoor
