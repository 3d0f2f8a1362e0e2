/- What times.Civil and Week, and the document's, answer, for every number; no statement of the seat is proved here. -/
import Derived.Test.YtpdnlojennhmpaaGreatDoorDays
namespace Go.Proofs.YtpdnlojennhmpaaGreatDoor
set_option linter.unusedVariables false
open Go.RowKit
theorem year_end {n : Int} {k : Nat} (h : n < 84006) (hk : k ≤ 229) (g : Cal.ycum (k + 1) ≤ n) : k + 1 ≤ 229 := by
  by_cases e : k = 229
  · subst e; exact absurd (show Cal.ycum 230 ≤ n from g) (by rw [Cal.ycum_all]; omega)
  · omega
theorem month_end {y r : Int} {j : Nat} (h : r < Cal.yl y) (hj : j ≤ 11) (g : Cal.mcum y (j + 1) ≤ r) : j + 1 ≤ 11 := by
  by_cases e : j = 11
  · subst e; exact absurd (show Cal.mcum y 12 ≤ r from g) (by rw [Cal.mcum_year]; omega)
  · omega
set_option maxHeartbeats 1000000 in
theorem Civil_no (n : Int) (w : World) (h : n < 0 ∨ 84006 ≤ n) : Calls Tryz.prog 23 #[.int .i64 n] w fun e w' => e = .returned (.tuple #[.int .i64 0, .int .i64 0, .int .i64 0, .bool false]) ∧ w' = w := by
  rcases h with h | h
  · go_enter Tryz.func23, Tryz.ntmps23
    go_wp2
    exact bodyPost_ret (v := .tuple #[.int .i64 0, .int .i64 0, .int .i64 0, .bool false]) (by simp [results, Tryz.results23, go_sem]) rfl ⟨rfl, rfl⟩
  · have h2 : ¬ n < 0 := by omega
    go_enter Tryz.func23, Tryz.ntmps23
    go_wp2
    exact bodyPost_ret (v := .tuple #[.int .i64 0, .int .i64 0, .int .i64 0, .bool false]) (by simp [results, Tryz.results23, go_sem]) rfl ⟨rfl, rfl⟩
set_option maxHeartbeats 2000000 in
theorem Civil_yes (n : Int) (w : World) (h1 : 0 ≤ n) (h2 : n < 84006) (hT : Tab w) : Calls Tryz.prog 23 #[.int .i64 n] w fun e w' => ∃ (k m : Nat) (d : Int), Cal.At n k m d ∧ k ≤ 229 ∧ e = .returned (.tuple #[.int .i64 (1970 + (k : Int)), .int .i64 (1 + (m : Int)), .int .i64 (d + 1), .bool true]) ∧ w' = w := by
  have HT : Hid (Tab w) := hT
  clear hT
  go_enter Tryz.func23, Tryz.ntmps23
  go_wp2
  go_loop [0, 2] (fun r y => ∃ k : Nat, k ≤ 229 ∧ y = .int .i64 (1970 + (k : Int)) ∧ 0 ≤ n - Cal.ycum k ∧ r = .int .i64 (n - Cal.ycum k)) (fun _ y => (2199 - intOf y).toNat)
  case atStart => exact ⟨0, by omega, rfl, by simp [Cal.ycum]; omega, by simp [Cal.ycum]⟩
  case round =>
    obtain ⟨k, hk, rfl, hr, rfl⟩ := hrel
    have cb := Cal.ycum_bd k
    have yb := Cal.yl_bd (1970 + (k : Int))
    have YS : Hid (Cal.ycum (k + 1) = Cal.ycum k + Cal.yl (1970 + (k : Int))) := rfl
    by_cases hc : Cal.yl (1970 + (k : Int)) ≤ n - Cal.ycum k
    · have hk2 : k + 1 ≤ 229 := year_end h2 hk (by rw [YS.out]; omega)
      go_wp2_with (first | (go_at_call 30; refine (daysOfYear_of _ _ (by omega)).mono ?_; rintro e w' ⟨rfl, rfl⟩))
      go_round
      case rel => exact ⟨k + 1, hk2, by go_num, by rw [YS.out]; omega, by rw [YS.out]; go_num⟩
      case measure => simp [intOf]; omega
    · go_wp2_with (first | (go_at_call 30; refine (daysOfYear_of _ _ (by omega)).mono ?_; rintro e w' ⟨rfl, rfl⟩))
      go_loop [0, 3] (fun r i => ∃ j : Nat, j ≤ 11 ∧ i = .int .i64 (1 + (j : Int)) ∧ 0 ≤ n - Cal.ycum k - Cal.mcum (1970 + (k : Int)) j ∧ r = .int .i64 (n - Cal.ycum k - Cal.mcum (1970 + (k : Int)) j)) (fun _ i => (12 - intOf i).toNat)
      case atStart => exact ⟨0, by omega, rfl, by simp [Cal.mcum]; omega, by simp [Cal.mcum]⟩
      case round =>
        obtain ⟨j, hj, rfl, hr2, rfl⟩ := hrel
        have mb := Cal.mcum_bd (1970 + (k : Int)) j
        have db := Cal.dim_bd (1970 + (k : Int)) (1 + (j : Int))
        have MS : Hid (Cal.mcum (1970 + (k : Int)) (j + 1) = Cal.mcum (1970 + (k : Int)) j + Cal.dim (1970 + (k : Int)) (1 + (j : Int))) := by show _ = _; simp only [Cal.mcum]; rw [Int.add_comm (j : Int) 1]
        by_cases hd : Cal.dim (1970 + (k : Int)) (1 + (j : Int)) ≤ n - Cal.ycum k - Cal.mcum (1970 + (k : Int)) j
        · have hj2 : j + 1 ≤ 11 := month_end (r := n - Cal.ycum k) (by omega) hj (by rw [MS.out]; omega)
          go_wp2_with (first | (go_at_call 31; refine (daysOfMonth_of _ _ _ (by omega) (by omega) (by omega) HT.out).mono ?_; rintro e w' ⟨rfl, rfl⟩))
          go_round
          case rel => exact ⟨j + 1, hj2, by go_num, by rw [MS.out]; omega, by rw [MS.out]; go_num⟩
          case measure => simp [intOf]; omega
        · go_wp2_with (first | (go_at_call 31; refine (daysOfMonth_of _ _ _ (by omega) (by omega) (by omega) HT.out).mono ?_; rintro e w' ⟨rfl, rfl⟩))
          refine bodyPost_ret (v := .tuple #[.int .i64 (1970 + (k : Int)), .int .i64 (1 + (j : Int)), .int .i64 (n - Cal.ycum k - Cal.mcum (1970 + (k : Int)) j + 1), .bool true]) (by simp [results, Tryz.results23, go_sem]) rfl ⟨k, j, n - Cal.ycum k - Cal.mcum (1970 + (k : Int)) j, ⟨by omega, hr2, by rw [Int.add_comm (j : Int) 1]; omega, by omega⟩, hk, rfl, rfl⟩
end Go.Proofs.YtpdnlojennhmpaaGreatDoor
