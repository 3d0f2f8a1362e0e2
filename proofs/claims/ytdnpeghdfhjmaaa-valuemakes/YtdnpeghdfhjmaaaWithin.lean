/- What the value package's within comes to; no statement of the seat is proved here. -/
import Derived.Test.YtdnpeghdfhjmaaaOrd
namespace Go.Proofs.Ytdnpeghdfhjmaaa
set_option linter.unusedVariables false
open Go.RowKit
theorem win_f (n lo hi : Int) (c : n < lo) : false = decide (lo ≤ n ∧ n ≤ hi) := by symm; simp; omega
theorem win_t (n lo hi : Int) (c : ¬ n < lo) : decide (cmpI n hi ≤ 0) = decide (lo ≤ n ∧ n ≤ hi) := by
  rw [Bool.eq_iff_iff]; simp only [decide_eq_true_eq]; unfold cmpI; split <;> (try split) <;> omega
set_option maxHeartbeats 400000 in
theorem within_of (n lo hi : Int) (w : World) (g1 : -9223372036854775808 ≤ lo ∧ lo < 9223372036854775808) (g2 : -9223372036854775808 ≤ hi ∧ hi < 9223372036854775808) :
    Calls Try.prog 48 #[NB n, .int .i64 lo, .int .i64 hi] w fun e w' => e = .returned (.bool (decide (lo ≤ n ∧ n ≤ hi))) ∧ Below w.heap.size w w' := by
  by_cases c : n < lo
  · have d : decide (0 ≤ cmpI n lo) = false := by rw [← cmpI_lt c]; rfl
    go_enter Try.func48, Try.ntmps48
    go_wp2
    have hc0 : ∀ x : Sub (w.alloc (Obj.cells #[Value.bool (decide (n < 0)), Value.int IntKind.u64 ↑n.natAbs] 51)), x.w.cell? ⟨w.heap.size, 0, none⟩ = some (.bool (decide (n < 0))) := fun x => by rw [x.cell _ _ (by simp)]; simp
    have hc1 : ∀ x : Sub (w.alloc (Obj.cells #[Value.bool (decide (n < 0)), Value.int IntKind.u64 ↑n.natAbs] 51)), x.w.cell? ⟨w.heap.size, 1, none⟩ = some (.int .u64 n.natAbs) := fun x => by rw [x.cell _ _ (by simp)]; simp
    refine wp_region_sub (by kernel_rfl) (by kernel_rfl) ?_
    repeat (first | go_big_quiet_skip | (go_big_quiet_want; go_big_quiet_op; first | go_big_quiet_on | (refine ⟨_, fun _ => rfl, ?_⟩; go_big_quiet_on) | go_big_quiet_call (first | (go_at_call 32; refine calls_sub (numberFrom_of _ _ ?_); first | exact g1 | exact g2) | (go_at_call 68; exact calls_sub (order_of _ _ _)))))
    refine wpQuiet_nil ?_
    rintro _ ⟨x, rfl⟩
    go_wp2
    go_ret
    exact ⟨ret_bool (by first | exact win_f n lo hi c | exact win_t n lo hi (by omega)), ((Below.refl _ _).alloc (Nat.le_refl _) _).trans (x.h.mono (by simp))⟩
  · have d : 0 ≤ cmpI n lo := by unfold cmpI; rw [if_neg c]; split <;> omega
    go_enter Try.func48, Try.ntmps48
    go_wp2
    have hc0 : ∀ x : Sub (w.alloc (Obj.cells #[Value.bool (decide (n < 0)), Value.int IntKind.u64 ↑n.natAbs] 51)), x.w.cell? ⟨w.heap.size, 0, none⟩ = some (.bool (decide (n < 0))) := fun x => by rw [x.cell _ _ (by simp)]; simp
    have hc1 : ∀ x : Sub (w.alloc (Obj.cells #[Value.bool (decide (n < 0)), Value.int IntKind.u64 ↑n.natAbs] 51)), x.w.cell? ⟨w.heap.size, 1, none⟩ = some (.int .u64 n.natAbs) := fun x => by rw [x.cell _ _ (by simp)]; simp
    refine wp_region_sub (by kernel_rfl) (by kernel_rfl) ?_
    repeat (first | go_big_quiet_skip | (go_big_quiet_want; go_big_quiet_op; first | go_big_quiet_on | (refine ⟨_, fun _ => rfl, ?_⟩; go_big_quiet_on) | go_big_quiet_call (first | (go_at_call 32; refine calls_sub (numberFrom_of _ _ ?_); first | exact g1 | exact g2) | (go_at_call 68; exact calls_sub (order_of _ _ _)))))
    refine wpQuiet_nil ?_
    rintro _ ⟨x, rfl⟩
    go_wp2
    go_ret
    exact ⟨ret_bool (by first | exact win_f n lo hi c | exact win_t n lo hi (by omega)), ((Below.refl _ _).alloc (Nat.le_refl _) _).trans (x.h.mono (by simp))⟩
end Go.Proofs.Ytdnpeghdfhjmaaa
