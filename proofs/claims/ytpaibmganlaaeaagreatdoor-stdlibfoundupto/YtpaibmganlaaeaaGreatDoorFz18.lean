/- What the functions that choose take, and the document's alike; no statement of the seat is proved here. -/
import Derived.Test.YtpaibmganlaaeaaGreatDoorFz03
namespace Go.Proofs.YtpaibmganlaaeaaGreatDoor
set_option linter.unusedVariables false
open Go.RowKit
set_option maxHeartbeats 1000000 in
theorem chosenByTruth_of (hw : Int) (g n cap : Nat) (κ : Nat → Int) (w : World) (hk : KsAt w ⟨g, 0, none⟩ n κ) (hn : n < 1000000) (h2 : 2 ≤ n) (hc : n ≤ cap) :
    Calls Tryz.prog 47 #[.int .i64 hw, .slice (some ⟨g, 0, none⟩) n cap] w fun e w' => e = .returned (.int .u8 (gvK (comK (n - 1) (fun i => κ (1 + i))) (κ 0 == 1))) ∧ Below w.heap.size w w' := by
  have d0 : w.cell? ⟨g, 0, none⟩ = some (.int .u8 (κ 0)) := hk 0 (by omega)
  have C : Hid (∀ (W : World) c, Below w.heap.size w W → Calls Tryz.prog 88 #[.slice (some ⟨g, 1, none⟩) (n - 1) c] W fun e w' => e = .returned (.int .u8 (comK (n - 1) (fun i => κ (1 + i)))) ∧ Below W.heap.size W w') := fun W c hb => common_of _ (n - 1) c _ W (by have := (hk.shift (m := n - 1) 1 (by omega) (by omega)).below hb; simpa using this) (by omega) (by omega)
  have c0 : ∀ x : Sub w, x.w.cell? ⟨g, 0, none⟩ = some (.int .u8 (κ 0)) := fun x => by rw [x.h.cell (p := ⟨g, 0, none⟩) (block_lt_of_cell d0)]; exact d0
  clear hk
  generalize comK (n - 1) (fun i => κ (1 + i)) = c at *
  generalize κ 0 = k at *
  have e1 : (1 : Int) ≤ n := by omega
  have e2 : (n : Int) ≤ cap := by omega
  have e3 : (0 : Int) < n := by omega
  obtain ⟨q, e4⟩ : ∃ q, (k == 1) = q := ⟨_, rfl⟩
  rw [e4]
  go_enter Tryz.func47, Tryz.ntmps47
  go_wp2_with fail
  refine wp_region_sub2 (by kernel_rfl) (by kernel_rfl) ?_
  intro cx
  repeat (first | go_big_quiet_skip | (go_big_quiet_want; go_big_quiet_op; first | go_big_quiet_on | (refine ⟨_, fun _ => rfl, ?_⟩; go_big_quiet_on) | go_big_quiet_call (first | (go_at_call 88; exact calls_sub (C.out _ _ (Sub.h _))) | (go_at_call 90; exact calls_sub_same (given_of _ _ _)))))
  refine wpQuiet_nil ?_
  rintro _ ⟨y, rfl⟩
  have Y : Hid (Below w.heap.size w y.w) := y.h
  clear cx
  go_wp2
  go_ret
  exact ⟨by simp, Y.out⟩
set_option maxHeartbeats 1000000 in
theorem chosenByNumber_of (hw : Int) (g n cap : Nat) (κ : Nat → Int) (w : World) (hk : KsAt w ⟨g, 0, none⟩ n κ) (hn : n < 1000000) (h2 : 2 ≤ n) (hc : n ≤ cap) :
    Calls Tryz.prog 49 #[.int .i64 hw, .slice (some ⟨g, 0, none⟩) n cap] w fun e w' => e = .returned (.int .u8 (gvK (comK (n - 1) (fun i => κ (1 + i))) (intK (κ 0)))) ∧ Below w.heap.size w w' := by
  have d0 : w.cell? ⟨g, 0, none⟩ = some (.int .u8 (κ 0)) := hk 0 (by omega)
  have C : Hid (∀ (W : World) c, Below w.heap.size w W → Calls Tryz.prog 88 #[.slice (some ⟨g, 1, none⟩) (n - 1) c] W fun e w' => e = .returned (.int .u8 (comK (n - 1) (fun i => κ (1 + i)))) ∧ Below W.heap.size W w') := fun W c hb => common_of _ (n - 1) c _ W (by have := (hk.shift (m := n - 1) 1 (by omega) (by omega)).below hb; simpa using this) (by omega) (by omega)
  have I : Hid (∀ w, Calls Tryz.prog 93 #[.int .u8 (κ 0)] w fun e w' => e = .returned (.bool (intK (κ 0))) ∧ w' = w) := isInteger_of (κ 0)
  have c0 : ∀ x : Sub w, x.w.cell? ⟨g, 0, none⟩ = some (.int .u8 (κ 0)) := fun x => by rw [x.h.cell (p := ⟨g, 0, none⟩) (block_lt_of_cell d0)]; exact d0
  clear hk
  generalize comK (n - 1) (fun i => κ (1 + i)) = c at *
  generalize κ 0 = k at *
  generalize intK k = q at *
  have e1 : (1 : Int) ≤ n := by omega
  have e2 : (n : Int) ≤ cap := by omega
  have e3 : (0 : Int) < n := by omega
  go_enter Tryz.func49, Tryz.ntmps49
  go_wp2_with fail
  refine wp_region_sub2 (by kernel_rfl) (by kernel_rfl) ?_
  intro cx
  repeat (first | go_big_quiet_skip | (go_big_quiet_want; go_big_quiet_op; first | go_big_quiet_on | (refine ⟨_, fun _ => rfl, ?_⟩; go_big_quiet_on) | go_big_quiet_call (first | (go_at_call 88; exact calls_sub (C.out _ _ (Sub.h _))) | (go_at_call 93; exact calls_sub_same (I.out _)) | (go_at_call 90; exact calls_sub_same (given_of _ _ _)))))
  refine wpQuiet_nil ?_
  rintro _ ⟨y, rfl⟩
  have Y : Hid (Below w.heap.size w y.w) := y.h
  clear cx
  go_wp2
  go_ret
  exact ⟨by simp, Y.out⟩
set_option maxHeartbeats 1000000 in
theorem elementary_of (k : Int) (w : World) : Calls Tryz.prog 28 #[.int .u8 k] w fun e w' => e = .returned (.bool (decide (1 ≤ k ∧ k ≤ 19))) ∧ w' = w := by
  by_cases a : 1 ≤ k <;> by_cases b : k ≤ 19
  all_goals
    go_enter Tryz.func28, Tryz.ntmps28
    go_wp2
    go_ret
    exact ⟨ret_bool (by simp [a, b]), rfl⟩
set_option maxHeartbeats 1000000 in
theorem alikeR_of (a : Addr) (n cap : Nat) (κ : Nat → Int) (w : World) (hk : KsAt w a n κ) (hn : n < 1000000) (h0 : 0 < n) :
    Calls Tryz.prog 29 #[.slice (some a) n cap] w fun e w' => e = .returned (.bool (allS n κ)) ∧ w' = w := by
  have HK : Hid (KsAt w a n κ) := hk
  have d0 : w.cell? a = some (.int .u8 (κ 0)) := by have := hk 0 h0; rwa [Addr.add_zero'] at this
  have p0 : (0 : Int) < n := by omega
  clear hk
  go_enter Tryz.func29, Tryz.ntmps29
  go_wp2
  go_loopw [7] (fun i wr => ∃ k : Nat, k ≤ n ∧ i = .int .i64 k ∧ wr = w ∧ ∀ j, j < k → κ j = κ 0) (fun i _ => n - (intOf i).toNat)
  case atStart => exact ⟨0, Nat.zero_le _, rfl, rfl, fun j hj => absurd hj (Nat.not_lt_zero _)⟩
  case round =>
    obtain ⟨k, hk, rfl, hw, hall⟩ := hrel
    subst hw
    have HA : Hid _ := hall
    clear hall
    by_cases hlt : k < n
    · have d := HK.out k hlt
      by_cases e : κ k = κ 0
      · have e1 : (κ k != κ 0) = false := by simpa using e
        have e2 : (κ k == κ 0) = true := by simpa using e
        have E : Hid (κ k = κ 0) := e
        clear e
        go_wp2
        exact ⟨⟨k + 1, by omega, by go_num, (by first | rfl | trivial), fun j hj => by rcases Nat.lt_succ_iff_lt_or_eq.1 hj with h | rfl; exact HA.out j h; exact E.out⟩, by simp [intOf]; omega⟩
      · have e1 : (κ k != κ 0) = true := by simpa using e
        have e2 : (κ k == κ 0) = false := by simpa using e
        have E : Hid (¬ κ k = κ 0) := e
        clear e
        go_wp2
        go_ret
        exact ⟨ret_bool (by unfold allS; exact (decide_eq_false (fun g => E.out (g k hlt))).symm), rfl⟩
    · have ek : k = n := by omega
      go_wp2
      go_ret
      exact ⟨ret_bool (by unfold allS; exact (decide_eq_true (fun i hi => HA.out i (by omega))).symm), rfl⟩
end Go.Proofs.YtpaibmganlaaeaaGreatDoor
