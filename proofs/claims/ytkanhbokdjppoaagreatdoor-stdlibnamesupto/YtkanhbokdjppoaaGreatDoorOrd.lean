/- What the value package's order comes to, and how a statement whose order Go leaves open is walked once where its calls only make memory; no statement of the seat is proved here. -/
import Derived.Test.YtkanhbokdjppoaaGreatDoorNums
import Derived.Test.YtkanhbokdjppoaaGreatDoorSubG
import Derived.BigQuiet
namespace Go.Proofs.YtkanhbokdjppoaaGreatDoor
set_option linter.unusedVariables false
open Go.RowKit
set_option maxHeartbeats 400000 in
theorem order_raw (p q : Bool) (a b : Int) (w : World) :
    Calls Tryz.prog 203 #[.agg #[.bool p, .int .u64 a], .agg #[.bool q, .int .u64 b]] w fun e w' =>
      e = .returned (.int .i64 (if p && !q then -1 else if q && !p then 1 else if p then cmpI b a else cmpI a b)) ∧ Below w.heap.size w w' := by
  cases p <;> cases q
  all_goals
    go_enter Tryz.func203, Tryz.ntmps203
    go_wp2_with (first | (go_at_call 215; refine (Compare_of _ _ _).mono ?_; rintro e w1 ⟨rfl, rfl⟩))
    go_ret
    exact ⟨ret_int (by simp), ((Below.refl _ _).alloc (Nat.le_refl _) _).alloc (by simp) _⟩
theorem order_of (a b : Int) (w : World) :
    Calls Tryz.prog 203 #[NB a, NB b] w fun e w' => e = .returned (.int .i64 (cmpI a b)) ∧ Below w.heap.size w w' := by
  refine (order_raw (decide (a < 0)) (decide (b < 0)) a.natAbs b.natAbs w).mono ?_
  rintro e w' ⟨rfl, hb⟩
  refine ⟨ret_int ?_, hb⟩
  by_cases ha : a < 0 <;> by_cases hb : b < 0 <;> simp only [ha, hb, decide_true, decide_false, Bool.not_true, Bool.not_false, Bool.and_true, Bool.and_false, if_true, if_false, Bool.false_eq_true] <;> unfold cmpI <;> (repeat' split) <;> omega
end Go.Proofs.YtkanhbokdjppoaaGreatDoor
