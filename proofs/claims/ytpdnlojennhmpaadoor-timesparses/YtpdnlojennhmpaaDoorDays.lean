/- What times.Days and the document's Days answer, for every year, month and day; no statement of the seat is proved here. -/
import Derived.Test.YtpdnlojennhmpaaDoorCal
import Derived.Test.YtpdnlojennhmpaaDoorBase
import Derived.WalkKit
import Derived.WalkSpells
import Derived.WalkLawsBesides
namespace Go.Proofs.YtpdnlojennhmpaaDoor
set_option linter.unusedVariables false
open Go.RowKit
/-- The table of the months' days lies as it was laid. -/
def Tab (w : World) : Prop := ∀ m : Nat, m < 13 → w.cell? ⟨1, m, none⟩ = some (.int .i64 ([0, 31, 28, 31, 30, 31, 30, 31, 31, 30, 31, 30, 31].getD m 0))
theorem leap_a {y : Int} (a : y % 4 = 0) (b : ¬ y % 100 = 0) : true = Cal.leapB y := by unfold Cal.leapB; symm; simp; omega
theorem leap_b {y : Int} (b : y % 100 = 0 ∨ ¬ y % 4 = 0) : (y % 400 == 0) = Cal.leapB y := by unfold Cal.leapB; rw [Bool.eq_iff_iff]; simp; omega
set_option maxHeartbeats 400000 in
theorem isLeap_of (y : Int) (w : World) (h : 0 ≤ y) : Calls Tryd.prog 70 #[.int .i64 y] w fun e w' => e = .returned (.bool (Cal.leapB y)) ∧ w' = w := by
  go_enter Tryd.func70, Tryd.ntmps70
  go_wp2
  all_goals
    go_ret
    refine ⟨ret_bool ?_, rfl⟩
    first | exact leap_a ‹_› ‹_› | exact leap_b (by omega)
set_option maxHeartbeats 400000 in
theorem leapR_of (y : Int) (w : World) (h : 0 ≤ y) : Calls Tryd.prog 61 #[.int .i64 y] w fun e w' => e = .returned (.bool (Cal.leapB y)) ∧ w' = w := by
  go_enter Tryd.func61, Tryd.ntmps61
  go_wp2
  all_goals
    go_ret
    refine ⟨ret_bool ?_, rfl⟩
    first | exact leap_a ‹_› ‹_› | exact leap_b (by omega)
set_option maxHeartbeats 400000 in
theorem daysOfYear_of (y : Int) (w : World) (h : 0 ≤ y) : Calls Tryd.prog 50 #[.int .i64 y] w fun e w' => e = .returned (.int .i64 (Cal.yl y)) ∧ w' = w := by
  go_enter Tryd.func50, Tryd.ntmps50
  go_wp2_with (first | (go_at_call 70; refine (isLeap_of _ _ h).mono ?_; rintro e w' ⟨rfl, rfl⟩))
  all_goals
    go_ret
    exact ⟨ret_int (by unfold Cal.yl; simp [*]), rfl⟩
theorem months (m : Int) (h1 : 1 ≤ m) (h2 : m ≤ 12) : m = 1 ∨ m = 2 ∨ m = 3 ∨ m = 4 ∨ m = 5 ∨ m = 6 ∨ m = 7 ∨ m = 8 ∨ m = 9 ∨ m = 10 ∨ m = 11 ∨ m = 12 := by omega
theorem Tab.at {w : World} (h : Tab w) (m : Nat) (n : Int) (hm : m < 13) (e : [0, 31, 28, 31, 30, 31, 30, 31, 31, 30, 31, 30, 31].getD m 0 = n) : w.cell? ⟨1, m, none⟩ = some (.int .i64 n) := by rw [← e]; exact h m hm
set_option maxHeartbeats 1000000 in
theorem daysOfMonth_of (y m : Int) (w : World) (h : 0 ≤ y) (h1 : 1 ≤ m) (h2 : m ≤ 12) (hT : Tab w) : Calls Tryd.prog 51 #[.int .i64 y, .int .i64 m] w fun e w' => e = .returned (.int .i64 (Cal.dim y m)) ∧ w' = w := by
  have q1 := hT.at 1 31 (by omega) rfl
  have q2 := hT.at 2 28 (by omega) rfl
  have q3 := hT.at 3 31 (by omega) rfl
  have q4 := hT.at 4 30 (by omega) rfl
  have q5 := hT.at 5 31 (by omega) rfl
  have q6 := hT.at 6 30 (by omega) rfl
  have q7 := hT.at 7 31 (by omega) rfl
  have q8 := hT.at 8 31 (by omega) rfl
  have q9 := hT.at 9 30 (by omega) rfl
  have q10 := hT.at 10 31 (by omega) rfl
  have q11 := hT.at 11 30 (by omega) rfl
  have q12 := hT.at 12 31 (by omega) rfl
  clear hT
  rcases months m h1 h2 with rfl | rfl | rfl | rfl | rfl | rfl | rfl | rfl | rfl | rfl | rfl | rfl
  all_goals
    go_enter Tryd.func51, Tryd.ntmps51
    go_wp2_with (first | (go_at_call 70; refine (isLeap_of _ _ h).mono ?_; rintro e w' ⟨rfl, rfl⟩))
    all_goals
      go_ret
      exact ⟨ret_int (by first | rfl | (unfold Cal.dim; simp [*]; done)), rfl⟩
set_option maxHeartbeats 1000000 in
theorem lengthR_of (y m : Int) (w : World) (h : 0 ≤ y) (h1 : 1 ≤ m) (h2 : m ≤ 12) : Calls Tryd.prog 60 #[.int .i64 y, .int .i64 m] w fun e w' => e = .returned (.int .i64 (Cal.dim y m)) ∧ w' = w := by
  rcases months m h1 h2 with rfl | rfl | rfl | rfl | rfl | rfl | rfl | rfl | rfl | rfl | rfl | rfl
  all_goals
    go_enter Tryd.func60, Tryd.ntmps60
    go_wp2_with (first | (go_at_call 61; refine (leapR_of _ _ h).mono ?_; rintro e w' ⟨rfl, rfl⟩))
    all_goals
      go_ret
      exact ⟨ret_int (by first | rfl | (unfold Cal.dim; simp [*]; done)), rfl⟩
/-- Is it a date? -/
def dateB (y m d : Int) : Bool := decide (1970 ≤ y ∧ y ≤ 2199 ∧ 1 ≤ m ∧ m ≤ 12 ∧ 1 ≤ d ∧ d ≤ Cal.dim y m)
theorem date_no {y m d : Int} (h : ¬ (1970 ≤ y ∧ y ≤ 2199 ∧ 1 ≤ m ∧ m ≤ 12 ∧ 1 ≤ d)) : dateB y m d = false := by unfold dateB; simp; omega
set_option maxHeartbeats 1000000 in
theorem isDate_of (y m d : Int) (w : World) (hT : Tab w) : Calls Tryd.prog 49 #[.int .i64 y, .int .i64 m, .int .i64 d] w fun e w' => e = .returned (.bool (dateB y m d)) ∧ w' = w := by
  by_cases a : 1970 ≤ y
  · by_cases b : y ≤ 2199
    · by_cases c : 1 ≤ m
      · by_cases f : m ≤ 12
        · by_cases g : 1 ≤ d
          · have R : Hid (decide (d ≤ Cal.dim y m) = dateB y m d) := by unfold dateB; show _ = _; simp [*]
            have HT : Hid (Tab w) := hT
            clear hT
            go_enter Tryd.func49, Tryd.ntmps49
            go_wp2_with (first | (go_at_call 51; refine (daysOfMonth_of _ _ _ (by omega) c f HT.out).mono ?_; rintro e w' ⟨rfl, rfl⟩))
            go_ret
            exact ⟨ret_bool R.out, rfl⟩
          · rw [date_no (by omega)]
            go_enter Tryd.func49, Tryd.ntmps49
            go_wp2
            go_ret
            exact ⟨rfl, rfl⟩
        · rw [date_no (by omega)]
          go_enter Tryd.func49, Tryd.ntmps49
          go_wp2
          go_ret
          exact ⟨rfl, rfl⟩
      · rw [date_no (by omega)]
        go_enter Tryd.func49, Tryd.ntmps49
        go_wp2
        go_ret
        exact ⟨rfl, rfl⟩
    · rw [date_no (by omega)]
      go_enter Tryd.func49, Tryd.ntmps49
      go_wp2
      go_ret
      exact ⟨rfl, rfl⟩
  · rw [date_no (by omega)]
    go_enter Tryd.func49, Tryd.ntmps49
    go_wp2
    go_ret
    exact ⟨rfl, rfl⟩
end Go.Proofs.YtpdnlojennhmpaaDoor
