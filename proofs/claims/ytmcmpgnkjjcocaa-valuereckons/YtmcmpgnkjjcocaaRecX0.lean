/- What the document's Result answers, for every operation and two kinds; no statement of the seat is proved here. -/
import Derived.Test.YtmcmpgnkjjcocaaRecXa
import Derived.Test.YtmcmpgnkjjcocaaRecXb
import Derived.Test.YtmcmpgnkjjcocaaRecXc
import Derived.Test.YtmcmpgnkjjcocaaRecXd
import Derived.Test.YtmcmpgnkjjcocaaRecXe
namespace Go.Proofs.Ytmcmpgnkjjcocaa
set_option linter.unusedVariables false
open Go.RowKit
theorem kinds8 (k : Int) : k < 1 ∨ 19 < k ∨ k = 1 ∨ (2 ≤ k ∧ k ≤ 5) ∨ (6 ≤ k ∧ k ≤ 9) ∨ (10 ≤ k ∧ k ≤ 13) ∨ k = 14 ∨ (15 ≤ k ∧ k ≤ 17) ∨ k = 18 ∨ k = 19 := by omega
theorem Result_s (op k : Int) (w : World) :
    Calls Try.prog 18 #[.int .i64 op, .int .u8 k, .int .u8 k] w fun e w' => e = .returned (.int .u8 (resK op k k)) ∧ w' = w := by
  rcases kinds8 k with h | h | rfl | ⟨h, h'⟩ | ⟨h, h'⟩ | ⟨h, h'⟩ | rfl | ⟨h, h'⟩ | rfl | rfl
  · exact Result_n1 op k w h
  · exact Result_n2 op k w h
  · exact Result_b op w
  · exact Result_s5 op k w h h'
  · exact Result_u op k w h h'
  · exact Result_r op k w h h'
  · exact Result_t op w
  · exact Result_d3 op k w h h'
  · exact Result_f op w
  · exact Result_x op w
theorem Result_of (op k k' : Int) (w : World) :
    Calls Try.prog 18 #[.int .i64 op, .int .u8 k, .int .u8 k'] w fun e w' => e = .returned (.int .u8 (resK op k k')) ∧ w' = w := by
  by_cases h : k = k'
  · subst h; exact Result_s op k w
  · exact Result_d op k k' w (by simpa using h)
end Go.Proofs.Ytmcmpgnkjjcocaa
