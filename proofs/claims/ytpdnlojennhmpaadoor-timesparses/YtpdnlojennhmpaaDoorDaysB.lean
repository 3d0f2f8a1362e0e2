/- What times.Days and the document's Days answer, for every year, month and day; no statement of the seat is proved here. -/
import Derived.Test.YtpdnlojennhmpaaDoorDays
namespace Go.Proofs.YtpdnlojennhmpaaDoor
set_option linter.unusedVariables false
open Go.RowKit
/-- How many days a date lies behind the first one. -/
def dayN (y m d : Int) : Int := d - 1 + Cal.ycum (y - 1970).toNat + Cal.mcum y (m - 1).toNat
abbrev DV (y m d : Int) : Value := .tuple #[.int .i64 (if dateB y m d then dayN y m d else 0), .bool (dateB y m d)]
theorem DV_f {y m d : Int} (h : dateB y m d = false) : Ending.returned (.tuple #[.int .i64 0, .bool false]) = .returned (DV y m d) := by simp [DV, h]
theorem DV_t {y m d n : Int} (h : dateB y m d = true) (e : n = dayN y m d) : Ending.returned (.tuple #[.int .i64 n, .bool true]) = .returned (DV y m d) := by simp [DV, h, e]
theorem date_yes {y m d : Int} (h : dateB y m d = true) : 1970 ≤ y ∧ y ≤ 2199 ∧ 1 ≤ m ∧ m ≤ 12 ∧ 1 ≤ d ∧ d ≤ 31 := by
  unfold dateB at h; simp at h; have := Cal.dim_bd y m; omega
set_option maxHeartbeats 1000000 in
theorem Days_of (y m d : Int) (w : World) (hT : Tab w) : Calls Tryd.prog 21 #[.int .i64 y, .int .i64 m, .int .i64 d] w fun e w' => e = .returned (DV y m d) ∧ w' = w := by
  have HT : Hid (Tab w) := hT
  clear hT
  cases c : dateB y m d
  · have R : Hid (dateB y m d = false) := c
    go_enter Tryd.func21, Tryd.ntmps21
    go_wp2_with (first | (go_at_call 49; refine (isDate_of _ _ _ _ HT.out).mono ?_; rintro e w' ⟨rfl, rfl⟩))
    go_ret2
    exact ⟨DV_f R.out, rfl⟩
  · have R : Hid (dateB y m d = true) := c
    obtain ⟨g1, g2, g3, g4, g5, g6⟩ := date_yes c
    go_enter Tryd.func21, Tryd.ntmps21
    go_wp2_with (first | (go_at_call 49; refine (isDate_of _ _ _ _ HT.out).mono ?_; rintro e w' ⟨rfl, rfl⟩))
    go_loop [8, 9] (fun t i => ∃ k : Nat, 1970 + (k : Int) ≤ y ∧ i = .int .i64 (1970 + (k : Int)) ∧ t = .int .i64 (d - 1 + Cal.ycum k)) (fun _ i => (y - intOf i).toNat)
    case atStart => exact ⟨0, by omega, rfl, by simp [Cal.ycum]⟩
    case round =>
      obtain ⟨k, hk, rfl, rfl⟩ := hrel
      have cb := Cal.ycum_bd k
      have yb := Cal.yl_bd (1970 + (k : Int))
      have YS : Hid (Cal.ycum (k + 1) = Cal.ycum k + Cal.yl (1970 + (k : Int))) := rfl
      by_cases hlt : 1970 + (k : Int) < y
      · go_wp2_with (first | (go_at_call 50; refine (daysOfYear_of _ _ (by omega)).mono ?_; rintro e w' ⟨rfl, rfl⟩))
        go_round
        case rel => exact ⟨k + 1, by omega, by go_num, by rw [YS.out]; go_num⟩
        case measure => simp [intOf]; omega
      · have hy : y = 1970 + (k : Int) := by omega
        have HY : Hid (y = 1970 + (k : Int)) := hy
        clear hy
        go_wp2
        go_loop [8, 10] (fun t i => ∃ n : Nat, 1 + (n : Int) ≤ m ∧ i = .int .i64 (1 + (n : Int)) ∧ t = .int .i64 (d - 1 + Cal.ycum k + Cal.mcum y n)) (fun _ i => (m - intOf i).toNat)
        case atStart => exact ⟨0, by omega, rfl, by simp [Cal.mcum]⟩
        case round =>
          obtain ⟨n, hn, rfl, rfl⟩ := hrel
          have mb := Cal.mcum_bd y n
          have db := Cal.dim_bd y (1 + (n : Int))
          have MS : Hid (Cal.mcum y (n + 1) = Cal.mcum y n + Cal.dim y (1 + (n : Int))) := by show _ = _; simp only [Cal.mcum]; rw [Int.add_comm (n : Int) 1]
          by_cases hlt2 : 1 + (n : Int) < m
          · go_wp2_with (first | (go_at_call 51; refine (daysOfMonth_of _ _ _ (by omega) (by omega) (by omega) HT.out).mono ?_; rintro e w' ⟨rfl, rfl⟩))
            go_round
            case rel => exact ⟨n + 1, by omega, by go_num, by rw [MS.out]; go_num⟩
            case measure => simp [intOf]; omega
          · go_wp2
            go_ret2
            refine ⟨DV_t R.out ?_, rfl⟩
            have e1 : (y - 1970).toNat = k := by have := HY.out; omega
            have e2 : (m - 1).toNat = n := by omega
            unfold dayN
            rw [e1, e2]
end Go.Proofs.YtpdnlojennhmpaaDoor
