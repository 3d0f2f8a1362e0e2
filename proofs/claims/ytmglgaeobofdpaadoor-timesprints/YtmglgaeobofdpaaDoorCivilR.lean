/- What the document's Civil and both Weeks answer, for every number; no statement of the seat is proved here. -/
import Derived.Test.YtmglgaeobofdpaaDoorCivil
namespace Go.Proofs.YtmglgaeobofdpaaDoor
set_option linter.unusedVariables false
open Go.RowKit
set_option maxHeartbeats 1000000 in
theorem CivilR_no (n : Int) (w : World) (h : n < 0 ∨ 84006 ≤ n) : Calls Tryd.prog 57 #[.int .i64 n] w fun e w' => e = .returned (.tuple #[.int .i64 0, .int .i64 0, .int .i64 0, .bool false]) ∧ w' = w := by
  rcases h with h | h
  · go_enter Tryd.func57, Tryd.ntmps57
    go_wp2
    exact bodyPost_ret (v := .tuple #[.int .i64 0, .int .i64 0, .int .i64 0, .bool false]) (by simp [results, Tryd.results57, go_sem]) rfl ⟨rfl, rfl⟩
  · have h2 : ¬ n < 0 := by omega
    go_enter Tryd.func57, Tryd.ntmps57
    go_wp2
    exact bodyPost_ret (v := .tuple #[.int .i64 0, .int .i64 0, .int .i64 0, .bool false]) (by simp [results, Tryd.results57, go_sem]) rfl ⟨rfl, rfl⟩
set_option maxHeartbeats 2000000 in
theorem CivilR_yes (n : Int) (w : World) (h1 : 0 ≤ n) (h2 : n < 84006) : Calls Tryd.prog 57 #[.int .i64 n] w fun e w' => ∃ (k m : Nat) (d : Int), Cal.At n k m d ∧ k ≤ 229 ∧ e = .returned (.tuple #[.int .i64 (1970 + (k : Int)), .int .i64 (1 + (m : Int)), .int .i64 (d + 1), .bool true]) ∧ w' = w := by
  skip
  skip
  go_enter Tryd.func57, Tryd.ntmps57
  go_wp2
  go_loop [0, 6] (fun r y => ∃ k : Nat, k ≤ 229 ∧ y = .int .i64 (1970 + (k : Int)) ∧ 0 ≤ n - Cal.ycum k ∧ r = .int .i64 (n - Cal.ycum k)) (fun _ y => (2199 - intOf y).toNat)
  case atStart => exact ⟨0, by omega, rfl, by simp [Cal.ycum]; omega, by simp [Cal.ycum]⟩
  case round =>
    obtain ⟨k, hk, rfl, hr, rfl⟩ := hrel
    have cb := Cal.ycum_bd k
    have yb := Cal.yl_bd (1970 + (k : Int))
    have YS : Hid (Cal.ycum (k + 1) = Cal.ycum k + Cal.yl (1970 + (k : Int))) := rfl
    by_cases hc : Cal.yl (1970 + (k : Int)) ≤ n - Cal.ycum k
    · have hk2 : k + 1 ≤ 229 := year_end h2 hk (by rw [YS.out]; omega)
      cases lp : Cal.leapB (1970 + (k : Int))
      · have yl : Cal.yl (1970 + (k : Int)) = 365 := by simp [Cal.yl, lp]
        have YL : Hid (Cal.yl (1970 + (k : Int)) = 365) := yl
        rw [yl] at hc
        clear yl
        go_wp2_with (first | (go_at_call 79; refine (leapR_of _ _ (by omega)).mono ?_; rintro e w' ⟨rfl, rfl⟩))
        go_round
        case rel => exact ⟨k + 1, hk2, by go_num, by rw [YS.out, YL.out]; omega, by rw [YS.out, YL.out]; go_num⟩
        case measure => simp [intOf]; omega
      · have yl : Cal.yl (1970 + (k : Int)) = 366 := by simp [Cal.yl, lp]
        have YL : Hid (Cal.yl (1970 + (k : Int)) = 366) := yl
        rw [yl] at hc
        clear yl
        go_wp2_with (first | (go_at_call 79; refine (leapR_of _ _ (by omega)).mono ?_; rintro e w' ⟨rfl, rfl⟩))
        go_round
        case rel => exact ⟨k + 1, hk2, by go_num, by rw [YS.out, YL.out]; omega, by rw [YS.out, YL.out]; go_num⟩
        case measure => simp [intOf]; omega
    · have HC : Hid (n - Cal.ycum k < Cal.yl (1970 + (k : Int))) := by show _ < _; omega
      have hq : ∃ q, Cal.yl (1970 + (k : Int)) = q ∧ n - Cal.ycum k < q ∧ ((Cal.leapB (1970 + (k : Int)) = true ∧ q = 366) ∨ (Cal.leapB (1970 + (k : Int)) = false ∧ q = 365)) := by
        cases lp : Cal.leapB (1970 + (k : Int))
        · exact ⟨365, by simp [Cal.yl, lp], by have : Cal.yl (1970 + (k : Int)) = 365 := by simp [Cal.yl, lp]
                                               omega, .inr ⟨rfl, rfl⟩⟩
        · exact ⟨366, by simp [Cal.yl, lp], by have : Cal.yl (1970 + (k : Int)) = 366 := by simp [Cal.yl, lp]
                                               omega, .inl ⟨rfl, rfl⟩⟩
      obtain ⟨q, _, hq2, hq3⟩ := hq
      rcases hq3 with ⟨lp, rfl⟩ | ⟨lp, rfl⟩
      all_goals
        clear hc
        go_wp2_with (first | (go_at_call 79; refine (leapR_of _ _ (by omega)).mono ?_; rintro e w' ⟨rfl, rfl⟩))
        go_loop [0, 8] (fun r i => ∃ j : Nat, j ≤ 11 ∧ i = .int .i64 (1 + (j : Int)) ∧ 0 ≤ n - Cal.ycum k - Cal.mcum (1970 + (k : Int)) j ∧ r = .int .i64 (n - Cal.ycum k - Cal.mcum (1970 + (k : Int)) j)) (fun _ i => (12 - intOf i).toNat)
        case atStart => exact ⟨0, by omega, rfl, by simp [Cal.mcum]; omega, by simp [Cal.mcum]⟩
        case round =>
          obtain ⟨j, hj, rfl, hr2, rfl⟩ := hrel
          have mb := Cal.mcum_bd (1970 + (k : Int)) j
          have db := Cal.dim_bd (1970 + (k : Int)) (1 + (j : Int))
          have MS : Hid (Cal.mcum (1970 + (k : Int)) (j + 1) = Cal.mcum (1970 + (k : Int)) j + Cal.dim (1970 + (k : Int)) (1 + (j : Int))) := by show _ = _; simp only [Cal.mcum]; rw [Int.add_comm (j : Int) 1]
          by_cases hd : Cal.dim (1970 + (k : Int)) (1 + (j : Int)) ≤ n - Cal.ycum k - Cal.mcum (1970 + (k : Int)) j
          · have hj2 : j + 1 ≤ 11 := month_end (r := n - Cal.ycum k) (HC.out) hj (by rw [MS.out]; omega)
            go_wp2_with (first | (go_at_call 78; refine (lengthR_of _ _ _ (by omega) (by omega) (by omega)).mono ?_; rintro e w' ⟨rfl, rfl⟩))
            go_round
            case rel => exact ⟨j + 1, hj2, by go_num, by rw [MS.out]; omega, by rw [MS.out]; go_num⟩
            case measure => simp [intOf]; omega
          · go_wp2_with (first | (go_at_call 78; refine (lengthR_of _ _ _ (by omega) (by omega) (by omega)).mono ?_; rintro e w' ⟨rfl, rfl⟩))
            refine bodyPost_ret (v := .tuple #[.int .i64 (1970 + (k : Int)), .int .i64 (1 + (j : Int)), .int .i64 (n - Cal.ycum k - Cal.mcum (1970 + (k : Int)) j + 1), .bool true]) (by simp [results, Tryd.results57, go_sem]) rfl ⟨k, j, n - Cal.ycum k - Cal.mcum (1970 + (k : Int)) j, ⟨by omega, hr2, by rw [Int.add_comm (j : Int) 1]; omega, by omega⟩, hk, rfl, rfl⟩
/-- The day of the week. -/
def wk (n : Int) : Int := (n + 4) % 7
theorem tm_neg (n : Int) (h : n < 0) : n.tmod 7 = -((-n) % 7) := by
  have e : n = -(-n) := by omega
  rw [e, Int.neg_tmod, Int.tmod_eq_emod_of_nonneg (by omega)]
  simp
theorem tm_pos (n : Int) (h : 0 ≤ n) : n.tmod 7 = n % 7 := Int.tmod_eq_emod_of_nonneg h
theorem wrap_small (n : Int) (h : -100 ≤ n ∧ n ≤ 100) : wrap64 n = n := by unfold wrap64; omega
theorem wk_a (n : Int) (h : n < 0) : (wrap64 (wrap64 (n.tmod 7 + 7) + 4)).tmod 7 = wk n := by
  rw [tm_neg n h, wrap_small (-(-n % 7) + 7) (by omega), wrap_small (-(-n % 7) + 7 + 4) (by omega), tm_pos _ (by omega)]
  unfold wk; omega
theorem wk_b (n : Int) (h : n < 0) (g : (wrap64 (n.tmod 7 + 4)).tmod 7 < 0) : wrap64 ((wrap64 (n.tmod 7 + 4)).tmod 7 + 7) = wk n := by
  rw [tm_neg n h, wrap_small (-(-n % 7) + 4) (by omega)] at g
  rw [tm_neg n h, wrap_small (-(-n % 7) + 4) (by omega)]
  by_cases c : 0 ≤ -(-n % 7) + 4
  · rw [tm_pos _ c] at g; omega
  · rw [tm_neg _ (by omega), wrap_small _ (by omega)]
    unfold wk; omega
theorem wk_c (n : Int) (h : n < 0) (g : 0 ≤ (wrap64 (n.tmod 7 + 4)).tmod 7) : (wrap64 (n.tmod 7 + 4)).tmod 7 = wk n := by
  rw [tm_neg n h, wrap_small (-(-n % 7) + 4) (by omega)] at g
  rw [tm_neg n h, wrap_small (-(-n % 7) + 4) (by omega)]
  by_cases c : 0 ≤ -(-n % 7) + 4
  · rw [tm_pos _ c]; unfold wk; omega
  · rw [tm_neg _ (by omega)] at g ⊢
    unfold wk; omega
end Go.Proofs.YtmglgaeobofdpaaDoor
