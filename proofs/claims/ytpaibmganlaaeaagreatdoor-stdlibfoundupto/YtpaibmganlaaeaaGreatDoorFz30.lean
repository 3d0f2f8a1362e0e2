/- The document's gives, for single functions; no statement of the seat is proved here. -/
import Derived.Test.YtpaibmganlaaeaaGreatDoorFz28
namespace Go.Proofs.YtpaibmganlaaeaaGreatDoor
set_option linter.unusedVariables false
open Go.RowKit
set_option maxRecDepth 20000 in
set_option maxHeartbeats 1000000 in
theorem gv_6 (a : Addr) (n cap : Nat) (κ : Nat → Int) (w : World) (hk : KsAt w a n κ) (h1 : 1 ≤ n) (h2 : n ≤ 16) (he : 1 ≤ κ 0 ∧ κ 0 ≤ 19) :
    Calls Tryz.prog 14 #[.int .i64 6, .slice (some a) n cap] w fun e w' => e = .returned (.int .u8 (if 2 ≤ n ∧ allS n κ = true ∧ ¬ resK 6 (κ 0) (κ 0) = 0 then κ 0 else 0)) ∧ Below w.heap.size w w' := by
  have g1 : ¬ (n : Int) < 1 := by omega
  have g2 : ¬ (16 : Int) < n := by omega
  have g3 : (0 : Int) < n := by omega
  have d0 : w.cell? a = some (.int .u8 (κ 0)) := by have := hk 0 (by omega); rwa [Addr.add_zero'] at this
  have c0 : ∀ x : Sub w, x.w.cell? a = some (.int .u8 (κ 0)) := fun x => by rw [x.h.cell (block_lt_of_cell d0)]; exact d0
  have E : Hid (∀ w, Calls Tryz.prog 28 #[.int .u8 (κ 0)] w fun e w' => e = .returned (.bool true) ∧ w' = w) := fun w => elem_is _ w true (decide_eq_true he)
  have A : Hid (Calls Tryz.prog 29 #[.slice (some a) n cap] w fun e w' => e = .returned (.bool (allS n κ)) ∧ w' = w) := alikeR_of a n cap κ w hk (by omega) (by omega)
  have O : Hid (∀ w, Calls Tryz.prog 31 #[.int .i64 6] w fun e w' => e = .returned (.int .i64 6) ∧ w' = w) := fun w => opR_of 6 (by decide) (by decide) w
  have R1 : Hid (∀ w, Calls Tryz.prog 30 #[.int .i64 6, .int .u8 (κ 0), .int .u8 (κ 1)] w fun e w' => e = .returned (.int .u8 (resK 6 (κ 0) (κ 1))) ∧ w' = w) := Result_of 6 _ _
  have R0 : Hid (∀ w, Calls Tryz.prog 30 #[.int .i64 6, .int .u8 (κ 0), .int .u8 (κ 0)] w fun e w' => e = .returned (.int .u8 (resK 6 (κ 0) (κ 0))) ∧ w' = w) := Result_of 6 _ _
  clear hk R1
  generalize allS n κ = p at *
  generalize κ 0 = k0 at *
  obtain ⟨q, eq⟩ : ∃ q, (resK 6 k0 k0 == 0) = q := ⟨_, rfl⟩
  have eq2 : (resK 6 k0 k0 != 0) = !q := by rw [bne, eq]
  obtain ⟨RR, hR⟩ : ∃ R, (if 2 ≤ n ∧ p = true ∧ ¬ resK 6 k0 k0 = 0 then k0 else 0) = R := ⟨_, rfl⟩
  rw [hR]
  have HR : Hid ((if 2 ≤ n ∧ p = true ∧ q = false then k0 else 0) = RR) := by
    show _ = _
    rw [← hR]
    have : (¬ resK 6 k0 k0 = 0) ↔ q = false := by rw [← eq]; simp
    simp only [this]
  clear hR
  generalize resK 6 k0 k0 = r at *
  by_cases n2 : 2 ≤ n
  · have m2 : (2 : Int) ≤ n := by omega
    cases p <;> cases q
    all_goals
      go_enter Tryz.func14, Tryz.ntmps14
      go_wp2_with (first | (go_at_call 28; with_reducible refine (E.out _).mono ?_; rintro e w1 ⟨rfl, h⟩; have h' := h.symm; subst h') | (go_at_call 29; refine Calls.mono A.out ?_; rintro e w1 ⟨rfl, h⟩; have h' := h.symm; subst h') | (go_at_call 31; with_reducible refine (O.out _).mono ?_; rintro e w1 ⟨rfl, h⟩; have h' := h.symm; subst h') | (go_at_call 30; with_reducible refine (R0.out _).mono ?_; rintro e w1 ⟨rfl, h⟩; have h' := h.symm; subst h'))
      refine wp_region_sub2 (by kernel_rfl) (by kernel_rfl) ?_
      intro cx
      repeat (first | go_big_quiet_skip | (go_big_quiet_want; go_big_quiet_op; first | go_big_quiet_on | (refine ⟨_, fun _ => rfl, ?_⟩; go_big_quiet_on) | go_big_quiet_call (first | (go_at_call 28; with_reducible exact calls_sub_same (E.out _)) | (go_at_call 31; with_reducible exact calls_sub_same (O.out _)) | (go_at_call 30; with_reducible exact calls_sub_same (R0.out _)))))
      refine wpQuiet_nil ?_
      rintro _ ⟨y, rfl⟩
      have Y : Hid (Below w.heap.size w y.w) := y.h
      have y0 := c0 y
      clear cx
      go_wp2_with (first | (go_at_call 28; with_reducible refine (E.out _).mono ?_; rintro e w1 ⟨rfl, h⟩; have h' := h.symm; subst h') | (go_at_call 29; refine Calls.mono A.out ?_; rintro e w1 ⟨rfl, h⟩; have h' := h.symm; subst h') | (go_at_call 31; with_reducible refine (O.out _).mono ?_; rintro e w1 ⟨rfl, h⟩; have h' := h.symm; subst h') | (go_at_call 30; with_reducible refine (R0.out _).mono ?_; rintro e w1 ⟨rfl, h⟩; have h' := h.symm; subst h'))
      go_ret
      exact ⟨by rw [← HR.out]; simp [n2]; try rfl, Y.out⟩
  · obtain rfl : n = 1 := by omega
    go_enter Tryz.func14, Tryz.ntmps14
    go_wp2_with (first | (go_at_call 28; with_reducible refine (E.out _).mono ?_; rintro e w1 ⟨rfl, h⟩; have h' := h.symm; subst h') | (go_at_call 29; refine Calls.mono A.out ?_; rintro e w1 ⟨rfl, h⟩; have h' := h.symm; subst h') | (go_at_call 31; with_reducible refine (O.out _).mono ?_; rintro e w1 ⟨rfl, h⟩; have h' := h.symm; subst h') | (go_at_call 30; with_reducible refine (R0.out _).mono ?_; rintro e w1 ⟨rfl, h⟩; have h' := h.symm; subst h'))
    refine wp_region_sub2 (by kernel_rfl) (by kernel_rfl) ?_
    intro cx
    repeat (first | go_big_quiet_skip | (go_big_quiet_want; go_big_quiet_op; first | go_big_quiet_on | (refine ⟨_, fun _ => rfl, ?_⟩; go_big_quiet_on) | go_big_quiet_call (first | (go_at_call 28; with_reducible exact calls_sub_same (E.out _)) | (go_at_call 31; with_reducible exact calls_sub_same (O.out _)) | (go_at_call 30; with_reducible exact calls_sub_same (R0.out _)))))
    refine wpQuiet_nil ?_
    rintro _ ⟨y, rfl⟩
    have Y : Hid (Below w.heap.size w y.w) := y.h
    have y0 := c0 y
    clear cx
    go_wp2_with (first | (go_at_call 28; with_reducible refine (E.out _).mono ?_; rintro e w1 ⟨rfl, h⟩; have h' := h.symm; subst h') | (go_at_call 29; refine Calls.mono A.out ?_; rintro e w1 ⟨rfl, h⟩; have h' := h.symm; subst h') | (go_at_call 31; with_reducible refine (O.out _).mono ?_; rintro e w1 ⟨rfl, h⟩; have h' := h.symm; subst h') | (go_at_call 30; with_reducible refine (R0.out _).mono ?_; rintro e w1 ⟨rfl, h⟩; have h' := h.symm; subst h'))
    go_ret
    exact ⟨by rw [← HR.out]; simp [n2]; try rfl, Y.out⟩
set_option maxRecDepth 20000 in
set_option maxHeartbeats 1000000 in
theorem gv_7 (a : Addr) (n cap : Nat) (κ : Nat → Int) (w : World) (hk : KsAt w a n κ) (h1 : 1 ≤ n) (h2 : n ≤ 16) (he : 1 ≤ κ 0 ∧ κ 0 ≤ 19) :
    Calls Tryz.prog 14 #[.int .i64 7, .slice (some a) n cap] w fun e w' => e = .returned (.int .u8 (if 2 ≤ n ∧ allS n κ = true ∧ ¬ resK 7 (κ 0) (κ 0) = 0 then κ 0 else 0)) ∧ Below w.heap.size w w' := by
  have g1 : ¬ (n : Int) < 1 := by omega
  have g2 : ¬ (16 : Int) < n := by omega
  have g3 : (0 : Int) < n := by omega
  have d0 : w.cell? a = some (.int .u8 (κ 0)) := by have := hk 0 (by omega); rwa [Addr.add_zero'] at this
  have c0 : ∀ x : Sub w, x.w.cell? a = some (.int .u8 (κ 0)) := fun x => by rw [x.h.cell (block_lt_of_cell d0)]; exact d0
  have E : Hid (∀ w, Calls Tryz.prog 28 #[.int .u8 (κ 0)] w fun e w' => e = .returned (.bool true) ∧ w' = w) := fun w => elem_is _ w true (decide_eq_true he)
  have A : Hid (Calls Tryz.prog 29 #[.slice (some a) n cap] w fun e w' => e = .returned (.bool (allS n κ)) ∧ w' = w) := alikeR_of a n cap κ w hk (by omega) (by omega)
  have O : Hid (∀ w, Calls Tryz.prog 31 #[.int .i64 7] w fun e w' => e = .returned (.int .i64 7) ∧ w' = w) := fun w => opR_of 7 (by decide) (by decide) w
  have R1 : Hid (∀ w, Calls Tryz.prog 30 #[.int .i64 7, .int .u8 (κ 0), .int .u8 (κ 1)] w fun e w' => e = .returned (.int .u8 (resK 7 (κ 0) (κ 1))) ∧ w' = w) := Result_of 7 _ _
  have R0 : Hid (∀ w, Calls Tryz.prog 30 #[.int .i64 7, .int .u8 (κ 0), .int .u8 (κ 0)] w fun e w' => e = .returned (.int .u8 (resK 7 (κ 0) (κ 0))) ∧ w' = w) := Result_of 7 _ _
  clear hk R1
  generalize allS n κ = p at *
  generalize κ 0 = k0 at *
  obtain ⟨q, eq⟩ : ∃ q, (resK 7 k0 k0 == 0) = q := ⟨_, rfl⟩
  have eq2 : (resK 7 k0 k0 != 0) = !q := by rw [bne, eq]
  obtain ⟨RR, hR⟩ : ∃ R, (if 2 ≤ n ∧ p = true ∧ ¬ resK 7 k0 k0 = 0 then k0 else 0) = R := ⟨_, rfl⟩
  rw [hR]
  have HR : Hid ((if 2 ≤ n ∧ p = true ∧ q = false then k0 else 0) = RR) := by
    show _ = _
    rw [← hR]
    have : (¬ resK 7 k0 k0 = 0) ↔ q = false := by rw [← eq]; simp
    simp only [this]
  clear hR
  generalize resK 7 k0 k0 = r at *
  by_cases n2 : 2 ≤ n
  · have m2 : (2 : Int) ≤ n := by omega
    cases p <;> cases q
    all_goals
      go_enter Tryz.func14, Tryz.ntmps14
      go_wp2_with (first | (go_at_call 28; with_reducible refine (E.out _).mono ?_; rintro e w1 ⟨rfl, h⟩; have h' := h.symm; subst h') | (go_at_call 29; refine Calls.mono A.out ?_; rintro e w1 ⟨rfl, h⟩; have h' := h.symm; subst h') | (go_at_call 31; with_reducible refine (O.out _).mono ?_; rintro e w1 ⟨rfl, h⟩; have h' := h.symm; subst h') | (go_at_call 30; with_reducible refine (R0.out _).mono ?_; rintro e w1 ⟨rfl, h⟩; have h' := h.symm; subst h'))
      refine wp_region_sub2 (by kernel_rfl) (by kernel_rfl) ?_
      intro cx
      repeat (first | go_big_quiet_skip | (go_big_quiet_want; go_big_quiet_op; first | go_big_quiet_on | (refine ⟨_, fun _ => rfl, ?_⟩; go_big_quiet_on) | go_big_quiet_call (first | (go_at_call 28; with_reducible exact calls_sub_same (E.out _)) | (go_at_call 31; with_reducible exact calls_sub_same (O.out _)) | (go_at_call 30; with_reducible exact calls_sub_same (R0.out _)))))
      refine wpQuiet_nil ?_
      rintro _ ⟨y, rfl⟩
      have Y : Hid (Below w.heap.size w y.w) := y.h
      have y0 := c0 y
      clear cx
      go_wp2_with (first | (go_at_call 28; with_reducible refine (E.out _).mono ?_; rintro e w1 ⟨rfl, h⟩; have h' := h.symm; subst h') | (go_at_call 29; refine Calls.mono A.out ?_; rintro e w1 ⟨rfl, h⟩; have h' := h.symm; subst h') | (go_at_call 31; with_reducible refine (O.out _).mono ?_; rintro e w1 ⟨rfl, h⟩; have h' := h.symm; subst h') | (go_at_call 30; with_reducible refine (R0.out _).mono ?_; rintro e w1 ⟨rfl, h⟩; have h' := h.symm; subst h'))
      go_ret
      exact ⟨by rw [← HR.out]; simp [n2]; try rfl, Y.out⟩
  · obtain rfl : n = 1 := by omega
    go_enter Tryz.func14, Tryz.ntmps14
    go_wp2_with (first | (go_at_call 28; with_reducible refine (E.out _).mono ?_; rintro e w1 ⟨rfl, h⟩; have h' := h.symm; subst h') | (go_at_call 29; refine Calls.mono A.out ?_; rintro e w1 ⟨rfl, h⟩; have h' := h.symm; subst h') | (go_at_call 31; with_reducible refine (O.out _).mono ?_; rintro e w1 ⟨rfl, h⟩; have h' := h.symm; subst h') | (go_at_call 30; with_reducible refine (R0.out _).mono ?_; rintro e w1 ⟨rfl, h⟩; have h' := h.symm; subst h'))
    refine wp_region_sub2 (by kernel_rfl) (by kernel_rfl) ?_
    intro cx
    repeat (first | go_big_quiet_skip | (go_big_quiet_want; go_big_quiet_op; first | go_big_quiet_on | (refine ⟨_, fun _ => rfl, ?_⟩; go_big_quiet_on) | go_big_quiet_call (first | (go_at_call 28; with_reducible exact calls_sub_same (E.out _)) | (go_at_call 31; with_reducible exact calls_sub_same (O.out _)) | (go_at_call 30; with_reducible exact calls_sub_same (R0.out _)))))
    refine wpQuiet_nil ?_
    rintro _ ⟨y, rfl⟩
    have Y : Hid (Below w.heap.size w y.w) := y.h
    have y0 := c0 y
    clear cx
    go_wp2_with (first | (go_at_call 28; with_reducible refine (E.out _).mono ?_; rintro e w1 ⟨rfl, h⟩; have h' := h.symm; subst h') | (go_at_call 29; refine Calls.mono A.out ?_; rintro e w1 ⟨rfl, h⟩; have h' := h.symm; subst h') | (go_at_call 31; with_reducible refine (O.out _).mono ?_; rintro e w1 ⟨rfl, h⟩; have h' := h.symm; subst h') | (go_at_call 30; with_reducible refine (R0.out _).mono ?_; rintro e w1 ⟨rfl, h⟩; have h' := h.symm; subst h'))
    go_ret
    exact ⟨by rw [← HR.out]; simp [n2]; try rfl, Y.out⟩
set_option maxRecDepth 20000 in
set_option maxHeartbeats 1000000 in
theorem gv_8 (a : Addr) (n cap : Nat) (κ : Nat → Int) (w : World) (hk : KsAt w a n κ) (h1 : 1 ≤ n) (h2 : n ≤ 16) (he : 1 ≤ κ 0 ∧ κ 0 ≤ 19) :
    Calls Tryz.prog 14 #[.int .i64 8, .slice (some a) n cap] w fun e w' => e = .returned (.int .u8 (if 2 ≤ n ∧ allS n κ = true ∧ ¬ resK 8 (κ 0) (κ 0) = 0 then κ 0 else 0)) ∧ Below w.heap.size w w' := by
  have g1 : ¬ (n : Int) < 1 := by omega
  have g2 : ¬ (16 : Int) < n := by omega
  have g3 : (0 : Int) < n := by omega
  have d0 : w.cell? a = some (.int .u8 (κ 0)) := by have := hk 0 (by omega); rwa [Addr.add_zero'] at this
  have c0 : ∀ x : Sub w, x.w.cell? a = some (.int .u8 (κ 0)) := fun x => by rw [x.h.cell (block_lt_of_cell d0)]; exact d0
  have E : Hid (∀ w, Calls Tryz.prog 28 #[.int .u8 (κ 0)] w fun e w' => e = .returned (.bool true) ∧ w' = w) := fun w => elem_is _ w true (decide_eq_true he)
  have A : Hid (Calls Tryz.prog 29 #[.slice (some a) n cap] w fun e w' => e = .returned (.bool (allS n κ)) ∧ w' = w) := alikeR_of a n cap κ w hk (by omega) (by omega)
  have O : Hid (∀ w, Calls Tryz.prog 31 #[.int .i64 8] w fun e w' => e = .returned (.int .i64 8) ∧ w' = w) := fun w => opR_of 8 (by decide) (by decide) w
  have R1 : Hid (∀ w, Calls Tryz.prog 30 #[.int .i64 8, .int .u8 (κ 0), .int .u8 (κ 1)] w fun e w' => e = .returned (.int .u8 (resK 8 (κ 0) (κ 1))) ∧ w' = w) := Result_of 8 _ _
  have R0 : Hid (∀ w, Calls Tryz.prog 30 #[.int .i64 8, .int .u8 (κ 0), .int .u8 (κ 0)] w fun e w' => e = .returned (.int .u8 (resK 8 (κ 0) (κ 0))) ∧ w' = w) := Result_of 8 _ _
  clear hk R1
  generalize allS n κ = p at *
  generalize κ 0 = k0 at *
  obtain ⟨q, eq⟩ : ∃ q, (resK 8 k0 k0 == 0) = q := ⟨_, rfl⟩
  have eq2 : (resK 8 k0 k0 != 0) = !q := by rw [bne, eq]
  obtain ⟨RR, hR⟩ : ∃ R, (if 2 ≤ n ∧ p = true ∧ ¬ resK 8 k0 k0 = 0 then k0 else 0) = R := ⟨_, rfl⟩
  rw [hR]
  have HR : Hid ((if 2 ≤ n ∧ p = true ∧ q = false then k0 else 0) = RR) := by
    show _ = _
    rw [← hR]
    have : (¬ resK 8 k0 k0 = 0) ↔ q = false := by rw [← eq]; simp
    simp only [this]
  clear hR
  generalize resK 8 k0 k0 = r at *
  by_cases n2 : 2 ≤ n
  · have m2 : (2 : Int) ≤ n := by omega
    cases p <;> cases q
    all_goals
      go_enter Tryz.func14, Tryz.ntmps14
      go_wp2_with (first | (go_at_call 28; with_reducible refine (E.out _).mono ?_; rintro e w1 ⟨rfl, h⟩; have h' := h.symm; subst h') | (go_at_call 29; refine Calls.mono A.out ?_; rintro e w1 ⟨rfl, h⟩; have h' := h.symm; subst h') | (go_at_call 31; with_reducible refine (O.out _).mono ?_; rintro e w1 ⟨rfl, h⟩; have h' := h.symm; subst h') | (go_at_call 30; with_reducible refine (R0.out _).mono ?_; rintro e w1 ⟨rfl, h⟩; have h' := h.symm; subst h'))
      refine wp_region_sub2 (by kernel_rfl) (by kernel_rfl) ?_
      intro cx
      repeat (first | go_big_quiet_skip | (go_big_quiet_want; go_big_quiet_op; first | go_big_quiet_on | (refine ⟨_, fun _ => rfl, ?_⟩; go_big_quiet_on) | go_big_quiet_call (first | (go_at_call 28; with_reducible exact calls_sub_same (E.out _)) | (go_at_call 31; with_reducible exact calls_sub_same (O.out _)) | (go_at_call 30; with_reducible exact calls_sub_same (R0.out _)))))
      refine wpQuiet_nil ?_
      rintro _ ⟨y, rfl⟩
      have Y : Hid (Below w.heap.size w y.w) := y.h
      have y0 := c0 y
      clear cx
      go_wp2_with (first | (go_at_call 28; with_reducible refine (E.out _).mono ?_; rintro e w1 ⟨rfl, h⟩; have h' := h.symm; subst h') | (go_at_call 29; refine Calls.mono A.out ?_; rintro e w1 ⟨rfl, h⟩; have h' := h.symm; subst h') | (go_at_call 31; with_reducible refine (O.out _).mono ?_; rintro e w1 ⟨rfl, h⟩; have h' := h.symm; subst h') | (go_at_call 30; with_reducible refine (R0.out _).mono ?_; rintro e w1 ⟨rfl, h⟩; have h' := h.symm; subst h'))
      go_ret
      exact ⟨by rw [← HR.out]; simp [n2]; try rfl, Y.out⟩
  · obtain rfl : n = 1 := by omega
    go_enter Tryz.func14, Tryz.ntmps14
    go_wp2_with (first | (go_at_call 28; with_reducible refine (E.out _).mono ?_; rintro e w1 ⟨rfl, h⟩; have h' := h.symm; subst h') | (go_at_call 29; refine Calls.mono A.out ?_; rintro e w1 ⟨rfl, h⟩; have h' := h.symm; subst h') | (go_at_call 31; with_reducible refine (O.out _).mono ?_; rintro e w1 ⟨rfl, h⟩; have h' := h.symm; subst h') | (go_at_call 30; with_reducible refine (R0.out _).mono ?_; rintro e w1 ⟨rfl, h⟩; have h' := h.symm; subst h'))
    refine wp_region_sub2 (by kernel_rfl) (by kernel_rfl) ?_
    intro cx
    repeat (first | go_big_quiet_skip | (go_big_quiet_want; go_big_quiet_op; first | go_big_quiet_on | (refine ⟨_, fun _ => rfl, ?_⟩; go_big_quiet_on) | go_big_quiet_call (first | (go_at_call 28; with_reducible exact calls_sub_same (E.out _)) | (go_at_call 31; with_reducible exact calls_sub_same (O.out _)) | (go_at_call 30; with_reducible exact calls_sub_same (R0.out _)))))
    refine wpQuiet_nil ?_
    rintro _ ⟨y, rfl⟩
    have Y : Hid (Below w.heap.size w y.w) := y.h
    have y0 := c0 y
    clear cx
    go_wp2_with (first | (go_at_call 28; with_reducible refine (E.out _).mono ?_; rintro e w1 ⟨rfl, h⟩; have h' := h.symm; subst h') | (go_at_call 29; refine Calls.mono A.out ?_; rintro e w1 ⟨rfl, h⟩; have h' := h.symm; subst h') | (go_at_call 31; with_reducible refine (O.out _).mono ?_; rintro e w1 ⟨rfl, h⟩; have h' := h.symm; subst h') | (go_at_call 30; with_reducible refine (R0.out _).mono ?_; rintro e w1 ⟨rfl, h⟩; have h' := h.symm; subst h'))
    go_ret
    exact ⟨by rw [← HR.out]; simp [n2]; try rfl, Y.out⟩
set_option maxRecDepth 20000 in
set_option maxHeartbeats 1000000 in
theorem gv_21 (a : Addr) (n cap : Nat) (κ : Nat → Int) (w : World) (hk : KsAt w a n κ) (h1 : 1 ≤ n) (h2 : n ≤ 16) (he : 1 ≤ κ 0 ∧ κ 0 ≤ 19) :
    Calls Tryz.prog 14 #[.int .i64 21, .slice (some a) n cap] w fun e w' => e = .returned (.int .u8 (if n = 3 ∧ κ 0 = 1 ∧ κ 1 = κ 2 ∧ (1 ≤ κ 1 ∧ κ 1 ≤ 19) then κ 1 else 0)) ∧ Below w.heap.size w w' := by
  have g1 : ¬ (n : Int) < 1 := by omega
  have g2 : ¬ (16 : Int) < n := by omega
  have g3 : (0 : Int) < n := by omega
  have d0 : w.cell? a = some (.int .u8 (κ 0)) := by have := hk 0 (by omega); rwa [Addr.add_zero'] at this
  have c0 : ∀ x : Sub w, x.w.cell? a = some (.int .u8 (κ 0)) := fun x => by rw [x.h.cell (block_lt_of_cell d0)]; exact d0
  have E : Hid (∀ w, Calls Tryz.prog 28 #[.int .u8 (κ 0)] w fun e w' => e = .returned (.bool true) ∧ w' = w) := fun w => elem_is _ w true (decide_eq_true he)
  have A : Hid (Calls Tryz.prog 29 #[.slice (some a) n cap] w fun e w' => e = .returned (.bool (allS n κ)) ∧ w' = w) := alikeR_of a n cap κ w hk (by omega) (by omega)
  by_cases n3 : n = 3
  · subst n3
    have d1 : w.cell? ⟨a.block, a.off + 1, none⟩ = some (.int .u8 (κ 1)) := hk 1 (by omega)
    have c1 : ∀ x : Sub w, x.w.cell? ⟨a.block, a.off + 1, none⟩ = some (.int .u8 (κ 1)) := fun x => by rw [x.h.cell (p := ⟨a.block, a.off + 1, none⟩) (block_lt_of_cell d1)]; exact d1
    have d2 : w.cell? ⟨a.block, a.off + 2, none⟩ = some (.int .u8 (κ 2)) := hk 2 (by omega)
    have c2 : ∀ x : Sub w, x.w.cell? ⟨a.block, a.off + 2, none⟩ = some (.int .u8 (κ 2)) := fun x => by rw [x.h.cell (p := ⟨a.block, a.off + 2, none⟩) (block_lt_of_cell d2)]; exact d2
    obtain ⟨q, eq⟩ : ∃ q, decide (1 ≤ κ 1 ∧ κ 1 ≤ 19) = q := ⟨_, rfl⟩
    have E1 : Hid (∀ w, Calls Tryz.prog 28 #[.int .u8 (κ 1)] w fun e w' => e = .returned (.bool q) ∧ w' = w) := fun w => elem_is _ w q eq
    clear hk
    generalize allS 3 κ = p at *
    generalize κ 0 = k0 at *
    generalize κ 1 = k1 at *
    generalize κ 2 = k2 at *
    obtain ⟨b1, e1⟩ : ∃ b, (k0 == 1) = b := ⟨_, rfl⟩
    obtain ⟨b2, e2⟩ : ∃ b, (k1 == k2) = b := ⟨_, rfl⟩
    obtain ⟨RR, hR⟩ : ∃ R, (if 3 = 3 ∧ k0 = 1 ∧ k1 = k2 ∧ (1 ≤ k1 ∧ k1 ≤ 19) then k1 else 0) = R := ⟨_, rfl⟩
    rw [hR]
    have HR : Hid ((if b1 = true ∧ b2 = true ∧ q = true then k1 else 0) = RR) := by
      show _ = _
      rw [← hR]
      have t1 : k0 = 1 ↔ b1 = true := by rw [← e1]; simp
      have t2 : k1 = k2 ↔ b2 = true := by rw [← e2]; simp
      have t3 : (1 ≤ k1 ∧ k1 ≤ 19) ↔ q = true := by rw [← eq]; simp
      simp only [t1, t2, t3, true_and]
    clear hR eq
    cases b1 <;> cases b2 <;> cases q
    all_goals
      go_enter Tryz.func14, Tryz.ntmps14
      go_wp2_with (first | (go_at_call 28; with_reducible refine (E.out _).mono ?_; rintro e w1 ⟨rfl, h⟩; have h' := h.symm; subst h') | (go_at_call 29; refine Calls.mono A.out ?_; rintro e w1 ⟨rfl, h⟩; have h' := h.symm; subst h') | (go_at_call 28; with_reducible refine (E1.out _).mono ?_; rintro e w1 ⟨rfl, h⟩; have h' := h.symm; subst h'))
      refine wp_region_sub2 (by kernel_rfl) (by kernel_rfl) ?_
      intro cx
      repeat (first | go_big_quiet_skip | (go_big_quiet_want; go_big_quiet_op; first | go_big_quiet_on | (refine ⟨_, fun _ => rfl, ?_⟩; go_big_quiet_on) | go_big_quiet_call (first | (go_at_call 28; with_reducible exact calls_sub_same (E.out _)) | (go_at_call 28; with_reducible exact calls_sub_same (E1.out _)))))
      refine wpQuiet_nil ?_
      rintro _ ⟨y, rfl⟩
      have Y : Hid (Below w.heap.size w y.w) := y.h
      have y0 := c0 y
      have y1 := c1 y
      clear cx
      go_wp2_with (first | (go_at_call 28; with_reducible refine (E.out _).mono ?_; rintro e w1 ⟨rfl, h⟩; have h' := h.symm; subst h') | (go_at_call 29; refine Calls.mono A.out ?_; rintro e w1 ⟨rfl, h⟩; have h' := h.symm; subst h') | (go_at_call 28; with_reducible refine (E1.out _).mono ?_; rintro e w1 ⟨rfl, h⟩; have h' := h.symm; subst h'))
      go_ret
      exact ⟨by rw [← HR.out]; rfl, Y.out⟩
  · rw [if_neg (fun q => n3 q.1)]
    have m2 : ((n : Int) == 3) = false := by simp; omega
    clear hk n3
    generalize allS n κ = p at *
    generalize κ 0 = k0 at *
    go_enter Tryz.func14, Tryz.ntmps14
    go_wp2_with (first | (go_at_call 28; with_reducible refine (E.out _).mono ?_; rintro e w1 ⟨rfl, h⟩; have h' := h.symm; subst h') | (go_at_call 29; refine Calls.mono A.out ?_; rintro e w1 ⟨rfl, h⟩; have h' := h.symm; subst h'))
    refine wp_region_sub2 (by kernel_rfl) (by kernel_rfl) ?_
    intro cx
    repeat (first | go_big_quiet_skip | (go_big_quiet_want; go_big_quiet_op; first | go_big_quiet_on | (refine ⟨_, fun _ => rfl, ?_⟩; go_big_quiet_on) | go_big_quiet_call (first | (go_at_call 28; with_reducible exact calls_sub_same (E.out _)))))
    refine wpQuiet_nil ?_
    rintro _ ⟨y, rfl⟩
    have Y : Hid (Below w.heap.size w y.w) := y.h
    have y0 := c0 y
    clear cx
    go_wp2_with (first | (go_at_call 28; with_reducible refine (E.out _).mono ?_; rintro e w1 ⟨rfl, h⟩; have h' := h.symm; subst h') | (go_at_call 29; refine Calls.mono A.out ?_; rintro e w1 ⟨rfl, h⟩; have h' := h.symm; subst h'))
    go_ret
    exact ⟨rfl, Y.out⟩
end Go.Proofs.YtpaibmganlaaeaaGreatDoor
