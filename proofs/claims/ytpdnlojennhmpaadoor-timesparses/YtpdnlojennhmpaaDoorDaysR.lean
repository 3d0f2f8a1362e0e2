/- What the document's Days answers, for every year, month and day; no statement of the seat is proved here. -/
import Derived.Test.YtpdnlojennhmpaaDoorDaysB
namespace Go.Proofs.YtpdnlojennhmpaaDoor
set_option linter.unusedVariables false
open Go.RowKit
theorem date_last {y m d : Int} (h : 1970 ≤ y ∧ y ≤ 2199 ∧ 1 ≤ m ∧ m ≤ 12 ∧ 1 ≤ d) : dateB y m d = decide (d ≤ Cal.dim y m) := by unfold dateB; rw [Bool.eq_iff_iff]; simp; omega
set_option maxHeartbeats 2000000 in
theorem DaysR_no (y m d : Int) (w : World) (c : dateB y m d = false) : Calls Tryd.prog 38 #[.int .i64 y, .int .i64 m, .int .i64 d] w fun e w' => e = .returned (DV y m d) ∧ w' = w := by
  have R : Hid (dateB y m d = false) := c
  by_cases a : y < 1970
  · clear c
    go_enter Tryd.func38, Tryd.ntmps38
    go_wp2
    go_ret2
    exact ⟨DV_f R.out, rfl⟩
  by_cases b : 2199 < y
  · clear c
    go_enter Tryd.func38, Tryd.ntmps38
    go_wp2
    go_ret2
    exact ⟨DV_f R.out, rfl⟩
  by_cases f : m < 1
  · clear c
    go_enter Tryd.func38, Tryd.ntmps38
    go_wp2
    go_ret2
    exact ⟨DV_f R.out, rfl⟩
  by_cases g : 12 < m
  · clear c
    go_enter Tryd.func38, Tryd.ntmps38
    go_wp2
    go_ret2
    exact ⟨DV_f R.out, rfl⟩
  by_cases h : d < 1
  · clear c
    go_enter Tryd.func38, Tryd.ntmps38
    go_wp2
    go_ret2
    exact ⟨DV_f R.out, rfl⟩
  have l : Cal.dim y m < d := by rw [date_last (by omega)] at c; simpa using c
  clear c
  go_enter Tryd.func38, Tryd.ntmps38
  go_wp2_with (first | (go_at_call 60; refine (lengthR_of _ _ _ (by omega) (by omega) (by omega)).mono ?_; rintro e w' ⟨rfl, rfl⟩))
  go_ret2
  exact ⟨DV_f R.out, rfl⟩
set_option maxHeartbeats 2000000 in
theorem DaysR_yes (y m d : Int) (w : World) (c : dateB y m d = true) : Calls Tryd.prog 38 #[.int .i64 y, .int .i64 m, .int .i64 d] w fun e w' => e = .returned (DV y m d) ∧ w' = w := by
  have R : Hid (dateB y m d = true) := c
  obtain ⟨g1, g2, g3, g4, g5, g6⟩ := date_yes c
  have l : d ≤ Cal.dim y m := by rw [date_last (by omega)] at c; simpa using c
  clear c
  go_enter Tryd.func38, Tryd.ntmps38
  go_wp2_with (first | (go_at_call 60; refine (lengthR_of _ _ _ (by omega) (by omega) (by omega)).mono ?_; rintro e w' ⟨rfl, rfl⟩))
  go_loop [8, 9] (fun t i => ∃ n : Nat, 1 + (n : Int) ≤ m ∧ i = .int .i64 (1 + (n : Int)) ∧ t = .int .i64 (d - 1 + Cal.mcum y n)) (fun _ i => (m - intOf i).toNat)
  case atStart => exact ⟨0, by omega, rfl, by simp [Cal.mcum]⟩
  case round =>
    obtain ⟨n, hn, rfl, rfl⟩ := hrel
    have mb := Cal.mcum_bd y n
    have db := Cal.dim_bd y (1 + (n : Int))
    have MS : Hid (Cal.mcum y (n + 1) = Cal.mcum y n + Cal.dim y (1 + (n : Int))) := by show _ = _; simp only [Cal.mcum]; rw [Int.add_comm (n : Int) 1]
    by_cases hlt : 1 + (n : Int) < m
    · go_wp2_with (first | (go_at_call 60; refine (lengthR_of _ _ _ (by omega) (by omega) (by omega)).mono ?_; rintro e w' ⟨rfl, rfl⟩))
      go_round
      case rel => exact ⟨n + 1, by omega, by go_num, by rw [MS.out]; go_num⟩
      case measure => simp [intOf]; omega
    · go_wp2
      go_loop [8, 10] (fun t i => ∃ k : Nat, 1970 + (k : Int) ≤ y ∧ i = .int .i64 (1970 + (k : Int)) ∧ t = .int .i64 (d - 1 + Cal.mcum y n + Cal.ycum k)) (fun _ i => (y - intOf i).toNat)
      case atStart => exact ⟨0, by omega, rfl, by simp [Cal.ycum]⟩
      case round =>
        obtain ⟨k, hk, rfl, rfl⟩ := hrel
        have cb := Cal.ycum_bd k
        have yb := Cal.yl_bd (1970 + (k : Int))
        by_cases hlt2 : 1970 + (k : Int) < y
        · cases lp : Cal.leapB (1970 + (k : Int))
          · have YS : Hid (Cal.ycum (k + 1) = Cal.ycum k + 365) := by show _ = _; simp only [Cal.ycum, Cal.yl, lp]; simp
            go_wp2_with (first | (go_at_call 61; refine (leapR_of _ _ (by omega)).mono ?_; rintro e w' ⟨rfl, rfl⟩))
            go_round
            case rel => exact ⟨k + 1, by omega, by go_num, by rw [YS.out]; go_num⟩
            case measure => simp [intOf]; omega
          · have YS : Hid (Cal.ycum (k + 1) = Cal.ycum k + 366) := by show _ = _; simp only [Cal.ycum, Cal.yl, lp]; simp
            go_wp2_with (first | (go_at_call 61; refine (leapR_of _ _ (by omega)).mono ?_; rintro e w' ⟨rfl, rfl⟩))
            go_round
            case rel => exact ⟨k + 1, by omega, by go_num, by rw [YS.out]; go_num⟩
            case measure => simp [intOf]; omega
        · go_wp2
          go_ret2
          refine ⟨DV_t R.out ?_, rfl⟩
          have e1 : (y - 1970).toNat = k := by omega
          have e2 : (m - 1).toNat = n := by omega
          unfold dayN
          rw [e1, e2]
          omega
theorem DaysR_of (y m d : Int) (w : World) : Calls Tryd.prog 38 #[.int .i64 y, .int .i64 m, .int .i64 d] w fun e w' => e = .returned (DV y m d) ∧ w' = w := by
  cases c : dateB y m d
  · exact DaysR_no y m d w c
  · exact DaysR_yes y m d w c
end Go.Proofs.YtpdnlojennhmpaaDoor
