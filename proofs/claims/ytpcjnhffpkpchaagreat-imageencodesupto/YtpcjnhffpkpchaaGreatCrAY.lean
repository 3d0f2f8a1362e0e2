/- The document's image: small functions; no statement of the seat is proved here. -/
import Derived.Test.YtpcjnhffpkpchaaGreatCkHY
namespace Go.Proofs.YtpcjnhffpkpchaaGreat
set_option linter.unusedVariables false
open Go.RowKit
set_option maxHeartbeats 1000000 in
theorem inR_of (n b : Int) (w : World) : Calls Tryz.prog 75 #[.int .i64 n, .int .i64 b] w fun e w' => e = .returned (.bool (inB 0 b n)) ∧ w' = w := by
  unfold inB
  by_cases c : 0 ≤ n
  · by_cases d : n ≤ b
    · rw [decide_eq_true c, decide_eq_true d]
      go_enter Tryz.func75, Tryz.ntmps75
      go_wp2
      go_ret
      exact ⟨rfl, rfl⟩
    · rw [decide_eq_true c, decide_eq_false d]
      go_enter Tryz.func75, Tryz.ntmps75
      go_wp2
      go_ret
      exact ⟨rfl, rfl⟩
  · rw [decide_eq_false c]
    go_enter Tryz.func75, Tryz.ntmps75
    go_wp2
    go_ret
    exact ⟨rfl, rfl⟩
set_option maxHeartbeats 2000000 in
theorem widthR4_of (k : Int) (h : 1 ≤ k ∧ k ≤ 20) (w : World) : Calls Tryz.prog 74 #[.int .u8 k] w fun e w' => e = .returned (.int .i64 (wdK k)) ∧ w' = w := by
  rcases kinds20 k h with rfl | rfl | rfl | rfl | rfl | rfl | rfl | rfl | rfl | rfl | rfl | rfl | rfl | rfl | rfl | rfl | rfl | rfl | rfl | rfl
  all_goals
    go_enter Tryz.func74, Tryz.ntmps74
    go_wp2
    go_ret
    exact ⟨rfl, rfl⟩
set_option maxHeartbeats 1000000 in
theorem typedR_of (c : CeR) (w : World) : Calls Tryz.prog 72 #[CeV c] w fun e w' => e = .returned (.agg #[.int .u8 c.kd, .bool c.sb, .int .i64 c.lo, .int .i64 c.hi, .int .i64 c.mx, .bool false, .int .i64 0, .int .i64 0, .string ⟨#[]⟩]) ∧ Below w.heap.size w w' := by
  go_enter Tryz.func72, Tryz.ntmps72
  go_wp2
  exact bodyPost_ret (v := .agg #[.int .u8 c.kd, .bool c.sb, .int .i64 c.lo, .int .i64 c.hi, .int .i64 c.mx, .bool false, .int .i64 0, .int .i64 0, .string ⟨#[]⟩]) (by simp [results, Tryz.results72, go_sem]) rfl ⟨rfl, by go_grown⟩
set_option maxHeartbeats 2000000 in
theorem nearR_of (lo hi : Int) (h : lo ≤ hi) (h1 : -9223372036854775808 ≤ lo ∧ lo < 9223372036854775808) (h2 : -9223372036854775808 ≤ hi ∧ hi < 9223372036854775808) (w : World) : Calls Tryz.prog 98 #[.int .i64 lo, .int .i64 hi] w fun e w' => e = .returned (.bool (decide (hi - lo < 256))) ∧ w' = w := by
  by_cases a : lo < 0 ∧ 0 ≤ hi
  · obtain ⟨a1, a2⟩ := a
    by_cases b : -256 < lo
    · by_cases c : hi < 256
      · have e : wrap64 (hi - lo) = hi - lo := by unfold wrap64; omega
        by_cases d : hi - lo < 256
        · rw [decide_eq_true d]
          go_enter Tryz.func98, Tryz.ntmps98
          go_wp2
          go_ret
          exact ⟨rfl, rfl⟩
        · rw [decide_eq_false d]
          go_enter Tryz.func98, Tryz.ntmps98
          go_wp2
          go_ret
          exact ⟨rfl, rfl⟩
      · have d : ¬ hi - lo < 256 := by omega
        rw [decide_eq_false d]
        go_enter Tryz.func98, Tryz.ntmps98
        go_wp2
        go_ret
        exact ⟨rfl, rfl⟩
    · have d : ¬ hi - lo < 256 := by omega
      rw [decide_eq_false d]
      go_enter Tryz.func98, Tryz.ntmps98
      go_wp2
      go_ret
      exact ⟨rfl, rfl⟩
  · have e : wrap64 (hi - lo) = hi - lo := by unfold wrap64; omega
    by_cases b : lo < 0
    · have c : ¬ 0 ≤ hi := fun q => a ⟨b, q⟩
      by_cases d : hi - lo < 256
      · rw [decide_eq_true d]
        clear a
        go_enter Tryz.func98, Tryz.ntmps98
        go_wp2
        go_ret
        exact ⟨rfl, rfl⟩
      · rw [decide_eq_false d]
        clear a
        go_enter Tryz.func98, Tryz.ntmps98
        go_wp2
        go_ret
        exact ⟨rfl, rfl⟩
    · by_cases d : hi - lo < 256
      · rw [decide_eq_true d]
        clear a
        go_enter Tryz.func98, Tryz.ntmps98
        go_wp2
        go_ret
        exact ⟨rfl, rfl⟩
      · rw [decide_eq_false d]
        clear a
        go_enter Tryz.func98, Tryz.ntmps98
        go_wp2
        go_ret
        exact ⟨rfl, rfl⟩
end Go.Proofs.YtpcjnhffpkpchaaGreat
