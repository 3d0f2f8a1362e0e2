/- Which kinds are taken for another one, by the program and by the document; no statement of the seat is proved here. -/
import Derived.Test.YtbmpncnboanbaaaSubG
import Derived.Handy
namespace Go.Proofs.Ytbmpncnboanbaaa
set_option linter.unusedVariables false
open Go.RowKit
theorem ret_b {a b : Bool} (h : a = b) : Ending.returned (.bool a) = .returned (.bool b) := by rw [h]
/-- Is a kind one of bit rows, of integers, of those with a sign, of those without? -/
def rwK (k : Int) : Bool := decide (10 ≤ k ∧ k ≤ 13)
def itK (k : Int) : Bool := decide (2 ≤ k ∧ k ≤ 9)
def sgK (k : Int) : Bool := decide (2 ≤ k ∧ k ≤ 5)
def usK (k : Int) : Bool := decide (6 ≤ k ∧ k ≤ 9)
/-- How wide a kind is. -/
def wdK (k : Int) : Int := if k = 2 ∨ k = 6 ∨ k = 10 then 8 else if k = 3 ∨ k = 7 ∨ k = 11 then 16 else if k = 4 ∨ k = 8 ∨ k = 12 then 32 else if k = 5 ∨ k = 9 ∨ k = 13 then 64 else 0
theorem cRow_of (k : Int) (w : World) : Calls Try.prog 6 #[.int .u8 k] w fun e w' => e = .returned (.bool (rwK k)) ∧ w' = w := by
  by_cases a : 10 ≤ k <;> by_cases b : k ≤ 13
  all_goals
    go_enter Try.func6, Try.ntmps6
    go_wp2
    go_ret
    exact ⟨ret_b (by simp [rwK, a, b]), rfl⟩
theorem cInt_of (k : Int) (w : World) : Calls Try.prog 7 #[.int .u8 k] w fun e w' => e = .returned (.bool (itK k)) ∧ w' = w := by
  by_cases a : 2 ≤ k <;> by_cases b : k ≤ 9
  all_goals
    go_enter Try.func7, Try.ntmps7
    go_wp2
    go_ret
    exact ⟨ret_b (by simp [itK, a, b]), rfl⟩
theorem cSgn_of (k : Int) (w : World) : Calls Try.prog 8 #[.int .u8 k] w fun e w' => e = .returned (.bool (sgK k)) ∧ w' = w := by
  by_cases a : 2 ≤ k <;> by_cases b : k ≤ 5
  all_goals
    go_enter Try.func8, Try.ntmps8
    go_wp2
    go_ret
    exact ⟨ret_b (by simp [sgK, a, b]), rfl⟩
theorem rRow_of (k : Int) (w : World) : Calls Try.prog 9 #[.int .u8 k] w fun e w' => e = .returned (.bool (rwK k)) ∧ w' = w := by
  by_cases a : 10 ≤ k <;> by_cases b : k ≤ 13
  all_goals
    go_enter Try.func9, Try.ntmps9
    go_wp2
    go_ret
    exact ⟨ret_b (by simp [rwK, a, b]), rfl⟩
theorem rSgn_of (k : Int) (w : World) : Calls Try.prog 10 #[.int .u8 k] w fun e w' => e = .returned (.bool (sgK k)) ∧ w' = w := by
  by_cases a : 2 ≤ k <;> by_cases b : k ≤ 5
  all_goals
    go_enter Try.func10, Try.ntmps10
    go_wp2
    go_ret
    exact ⟨ret_b (by simp [sgK, a, b]), rfl⟩
theorem rUns_of (k : Int) (w : World) : Calls Try.prog 11 #[.int .u8 k] w fun e w' => e = .returned (.bool (usK k)) ∧ w' = w := by
  by_cases a : 6 ≤ k <;> by_cases b : k ≤ 9
  all_goals
    go_enter Try.func11, Try.ntmps11
    go_wp2
    go_ret
    exact ⟨ret_b (by simp [usK, a, b]), rfl⟩
theorem kindsW (k : Int) (hk : 0 ≤ k ∧ k < 256) : k = 2 ∨ k = 3 ∨ k = 4 ∨ k = 5 ∨ k = 6 ∨ k = 7 ∨ k = 8 ∨ k = 9 ∨ k = 10 ∨ k = 11 ∨ k = 12 ∨ k = 13 ∨ k = 0 ∨ k = 1 ∨ k = 14 ∨ k = 15 ∨ k = 16 ∨ k = 17 ∨ k = 18 ∨ k = 19 ∨ 19 < k := by omega
set_option maxHeartbeats 1000000 in
theorem rWid_of (k : Int) (hk : 0 ≤ k ∧ k < 256) (w : World) : Calls Try.prog 12 #[.int .u8 k] w fun e w' => e = .returned (.int .i64 (wdK k)) ∧ w' = w := by
  rcases kindsW k hk with rfl | rfl | rfl | rfl | rfl | rfl | rfl | rfl | rfl | rfl | rfl | rfl | rfl | rfl | rfl | rfl | rfl | rfl | rfl | rfl | h
  all_goals
    go_enter Try.func12, Try.ntmps12
    go_wp2
    go_ret
    refine ⟨?_, rfl⟩
    first | rfl | (unfold wdK; rw [if_neg (by omega), if_neg (by omega), if_neg (by omega), if_neg (by omega)]; rfl)
end Go.Proofs.Ytbmpncnboanbaaa
