/- The document's gives, for single functions; no statement of the seat is proved here. -/
import Derived.Test.YtpaibmganlaaeaaGreatDoorFz28
namespace Go.Proofs.YtpaibmganlaaeaaGreatDoor
set_option linter.unusedVariables false
open Go.RowKit
set_option maxRecDepth 20000 in
set_option maxHeartbeats 1000000 in
theorem gv_1 (a : Addr) (n cap : Nat) (κ : Nat → Int) (w : World) (hk : KsAt w a n κ) (h1 : 1 ≤ n) (h2 : n ≤ 16) (he : 1 ≤ κ 0 ∧ κ 0 ≤ 19) :
    Calls Tryz.prog 14 #[.int .i64 1, .slice (some a) n cap] w fun e w' => e = .returned (.int .u8 (if n = 2 then resK 1 (κ 0) (κ 1) else if 2 < n ∧ allS n κ = true ∧ resK 1 (κ 0) (κ 0) = κ 0 then κ 0 else 0)) ∧ Below w.heap.size w w' := by
  have g1 : ¬ (n : Int) < 1 := by omega
  have g2 : ¬ (16 : Int) < n := by omega
  have g3 : (0 : Int) < n := by omega
  have d0 : w.cell? a = some (.int .u8 (κ 0)) := by have := hk 0 (by omega); rwa [Addr.add_zero'] at this
  have c0 : ∀ x : Sub w, x.w.cell? a = some (.int .u8 (κ 0)) := fun x => by rw [x.h.cell (block_lt_of_cell d0)]; exact d0
  have E : Hid (∀ w, Calls Tryz.prog 28 #[.int .u8 (κ 0)] w fun e w' => e = .returned (.bool true) ∧ w' = w) := fun w => elem_is _ w true (decide_eq_true he)
  have A : Hid (Calls Tryz.prog 29 #[.slice (some a) n cap] w fun e w' => e = .returned (.bool (allS n κ)) ∧ w' = w) := alikeR_of a n cap κ w hk (by omega) (by omega)
  have O : Hid (∀ w, Calls Tryz.prog 31 #[.int .i64 1] w fun e w' => e = .returned (.int .i64 1) ∧ w' = w) := fun w => opR_of 1 (by decide) (by decide) w
  have R1 : Hid (∀ w, Calls Tryz.prog 30 #[.int .i64 1, .int .u8 (κ 0), .int .u8 (κ 1)] w fun e w' => e = .returned (.int .u8 (resK 1 (κ 0) (κ 1))) ∧ w' = w) := Result_of 1 _ _
  have R0 : Hid (∀ w, Calls Tryz.prog 30 #[.int .i64 1, .int .u8 (κ 0), .int .u8 (κ 0)] w fun e w' => e = .returned (.int .u8 (resK 1 (κ 0) (κ 0))) ∧ w' = w) := Result_of 1 _ _
  by_cases n2 : n = 2
  · subst n2
    rw [if_pos rfl]
    have d1 : w.cell? ⟨a.block, a.off + 1, none⟩ = some (.int .u8 (κ 1)) := hk 1 (by omega)
    have c1 : ∀ x : Sub w, x.w.cell? ⟨a.block, a.off + 1, none⟩ = some (.int .u8 (κ 1)) := fun x => by rw [x.h.cell (p := ⟨a.block, a.off + 1, none⟩) (block_lt_of_cell d1)]; exact d1
    clear hk
    generalize allS 2 κ = p at *
    generalize κ 1 = k1 at *
    generalize κ 0 = k0 at *
    generalize resK 1 k0 k1 = r at *
    go_enter Tryz.func14, Tryz.ntmps14
    go_wp2_with (first | (go_at_call 28; with_reducible refine (E.out _).mono ?_; rintro e w1 ⟨rfl, h⟩; have h' := h.symm; subst h') | (go_at_call 29; refine Calls.mono A.out ?_; rintro e w1 ⟨rfl, h⟩; have h' := h.symm; subst h') | (go_at_call 31; with_reducible refine (O.out _).mono ?_; rintro e w1 ⟨rfl, h⟩; have h' := h.symm; subst h') | (go_at_call 30; with_reducible refine (R1.out _).mono ?_; rintro e w1 ⟨rfl, h⟩; have h' := h.symm; subst h'))
    refine wp_region_sub2 (by kernel_rfl) (by kernel_rfl) ?_
    intro cx
    repeat (first | go_big_quiet_skip | (go_big_quiet_want; go_big_quiet_op; first | go_big_quiet_on | (refine ⟨_, fun _ => rfl, ?_⟩; go_big_quiet_on) | go_big_quiet_call (first | (go_at_call 28; with_reducible exact calls_sub_same (E.out _)) | (go_at_call 31; with_reducible exact calls_sub_same (O.out _)) | (go_at_call 30; with_reducible exact calls_sub_same (R1.out _)))))
    refine wpQuiet_nil ?_
    rintro _ ⟨y, rfl⟩
    have Y : Hid (Below w.heap.size w y.w) := y.h
    have y0 := c0 y
    clear cx
    go_wp2_with (first | (go_at_call 28; with_reducible refine (E.out _).mono ?_; rintro e w1 ⟨rfl, h⟩; have h' := h.symm; subst h') | (go_at_call 29; refine Calls.mono A.out ?_; rintro e w1 ⟨rfl, h⟩; have h' := h.symm; subst h') | (go_at_call 31; with_reducible refine (O.out _).mono ?_; rintro e w1 ⟨rfl, h⟩; have h' := h.symm; subst h') | (go_at_call 30; with_reducible refine (R1.out _).mono ?_; rintro e w1 ⟨rfl, h⟩; have h' := h.symm; subst h'))
    go_ret
    exact ⟨rfl, Y.out⟩
  rw [if_neg n2]
  have m2 : ((n : Int) == 2) = false := by simp; omega
  by_cases n3 : 2 < n
  · have m3 : (2 : Int) < n := by omega
    clear hk
    generalize allS n κ = p at *
    generalize κ 0 = k0 at *
    obtain ⟨q, eq⟩ : ∃ q, (resK 1 k0 k0 == k0) = q := ⟨_, rfl⟩
    obtain ⟨RR, hR⟩ : ∃ R, (if 2 < n ∧ p = true ∧ resK 1 k0 k0 = k0 then k0 else 0) = R := ⟨_, rfl⟩
    rw [hR]
    have HR : Hid ((if p = true ∧ q = true then k0 else 0) = RR) := by
      show _ = _
      rw [← hR]
      have : (resK 1 k0 k0 = k0) ↔ q = true := by rw [← eq]; simp
      simp [n3, this]
    clear hR n3 n2
    generalize resK 1 k0 k0 = r at *
    cases p
    · go_enter Tryz.func14, Tryz.ntmps14
      go_wp2_with (first | (go_at_call 28; with_reducible refine (E.out _).mono ?_; rintro e w1 ⟨rfl, h⟩; have h' := h.symm; subst h') | (go_at_call 29; refine Calls.mono A.out ?_; rintro e w1 ⟨rfl, h⟩; have h' := h.symm; subst h') | (go_at_call 31; with_reducible refine (O.out _).mono ?_; rintro e w1 ⟨rfl, h⟩; have h' := h.symm; subst h') | (go_at_call 30; with_reducible refine (R0.out _).mono ?_; rintro e w1 ⟨rfl, h⟩; have h' := h.symm; subst h'))
      refine wp_region_sub2 (by kernel_rfl) (by kernel_rfl) ?_
      intro cx
      repeat (first | go_big_quiet_skip | (go_big_quiet_want; go_big_quiet_op; first | go_big_quiet_on | (refine ⟨_, fun _ => rfl, ?_⟩; go_big_quiet_on) | go_big_quiet_call (first | (go_at_call 28; with_reducible exact calls_sub_same (E.out _)) | (go_at_call 31; with_reducible exact calls_sub_same (O.out _)) | (go_at_call 30; with_reducible exact calls_sub_same (R0.out _)))))
      refine wpQuiet_nil ?_
      rintro _ ⟨y, rfl⟩
      have Y : Hid (Below w.heap.size w y.w) := y.h
      have y0 := c0 y
      clear cx
      go_wp2_with (first | (go_at_call 28; with_reducible refine (E.out _).mono ?_; rintro e w1 ⟨rfl, h⟩; have h' := h.symm; subst h') | (go_at_call 29; refine Calls.mono A.out ?_; rintro e w1 ⟨rfl, h⟩; have h' := h.symm; subst h') | (go_at_call 31; with_reducible refine (O.out _).mono ?_; rintro e w1 ⟨rfl, h⟩; have h' := h.symm; subst h') | (go_at_call 30; with_reducible refine (R0.out _).mono ?_; rintro e w1 ⟨rfl, h⟩; have h' := h.symm; subst h'))
      go_ret
      exact ⟨by rw [← HR.out]; rfl, Y.out⟩
    · cases q
      · go_enter Tryz.func14, Tryz.ntmps14
        go_wp2_with (first | (go_at_call 28; with_reducible refine (E.out _).mono ?_; rintro e w1 ⟨rfl, h⟩; have h' := h.symm; subst h') | (go_at_call 29; refine Calls.mono A.out ?_; rintro e w1 ⟨rfl, h⟩; have h' := h.symm; subst h') | (go_at_call 31; with_reducible refine (O.out _).mono ?_; rintro e w1 ⟨rfl, h⟩; have h' := h.symm; subst h') | (go_at_call 30; with_reducible refine (R0.out _).mono ?_; rintro e w1 ⟨rfl, h⟩; have h' := h.symm; subst h'))
        refine wp_region_sub2 (by kernel_rfl) (by kernel_rfl) ?_
        intro cx
        repeat (first | go_big_quiet_skip | (go_big_quiet_want; go_big_quiet_op; first | go_big_quiet_on | (refine ⟨_, fun _ => rfl, ?_⟩; go_big_quiet_on) | go_big_quiet_call (first | (go_at_call 28; with_reducible exact calls_sub_same (E.out _)) | (go_at_call 31; with_reducible exact calls_sub_same (O.out _)) | (go_at_call 30; with_reducible exact calls_sub_same (R0.out _)))))
        refine wpQuiet_nil ?_
        rintro _ ⟨y, rfl⟩
        have Y : Hid (Below w.heap.size w y.w) := y.h
        have y0 := c0 y
        clear cx
        go_wp2_with (first | (go_at_call 28; with_reducible refine (E.out _).mono ?_; rintro e w1 ⟨rfl, h⟩; have h' := h.symm; subst h') | (go_at_call 29; refine Calls.mono A.out ?_; rintro e w1 ⟨rfl, h⟩; have h' := h.symm; subst h') | (go_at_call 31; with_reducible refine (O.out _).mono ?_; rintro e w1 ⟨rfl, h⟩; have h' := h.symm; subst h') | (go_at_call 30; with_reducible refine (R0.out _).mono ?_; rintro e w1 ⟨rfl, h⟩; have h' := h.symm; subst h'))
        go_ret
        exact ⟨by rw [← HR.out]; rfl, Y.out⟩
      · go_enter Tryz.func14, Tryz.ntmps14
        go_wp2_with (first | (go_at_call 28; with_reducible refine (E.out _).mono ?_; rintro e w1 ⟨rfl, h⟩; have h' := h.symm; subst h') | (go_at_call 29; refine Calls.mono A.out ?_; rintro e w1 ⟨rfl, h⟩; have h' := h.symm; subst h') | (go_at_call 31; with_reducible refine (O.out _).mono ?_; rintro e w1 ⟨rfl, h⟩; have h' := h.symm; subst h') | (go_at_call 30; with_reducible refine (R0.out _).mono ?_; rintro e w1 ⟨rfl, h⟩; have h' := h.symm; subst h'))
        refine wp_region_sub2 (by kernel_rfl) (by kernel_rfl) ?_
        intro cx
        repeat (first | go_big_quiet_skip | (go_big_quiet_want; go_big_quiet_op; first | go_big_quiet_on | (refine ⟨_, fun _ => rfl, ?_⟩; go_big_quiet_on) | go_big_quiet_call (first | (go_at_call 28; with_reducible exact calls_sub_same (E.out _)) | (go_at_call 31; with_reducible exact calls_sub_same (O.out _)) | (go_at_call 30; with_reducible exact calls_sub_same (R0.out _)))))
        refine wpQuiet_nil ?_
        rintro _ ⟨y, rfl⟩
        have Y : Hid (Below w.heap.size w y.w) := y.h
        have y0 := c0 y
        clear cx
        go_wp2_with (first | (go_at_call 28; with_reducible refine (E.out _).mono ?_; rintro e w1 ⟨rfl, h⟩; have h' := h.symm; subst h') | (go_at_call 29; refine Calls.mono A.out ?_; rintro e w1 ⟨rfl, h⟩; have h' := h.symm; subst h') | (go_at_call 31; with_reducible refine (O.out _).mono ?_; rintro e w1 ⟨rfl, h⟩; have h' := h.symm; subst h') | (go_at_call 30; with_reducible refine (R0.out _).mono ?_; rintro e w1 ⟨rfl, h⟩; have h' := h.symm; subst h'))
        go_ret
        exact ⟨by rw [← HR.out]; rfl, Y.out⟩
  · obtain rfl : n = 1 := by omega
    clear hk
    rw [if_neg (fun q => n3 q.1)]
    clear n3 n2
    generalize allS 1 κ = p at *
    go_enter Tryz.func14, Tryz.ntmps14
    go_wp2_with (first | (go_at_call 28; with_reducible refine (E.out _).mono ?_; rintro e w1 ⟨rfl, h⟩; have h' := h.symm; subst h') | (go_at_call 29; refine Calls.mono A.out ?_; rintro e w1 ⟨rfl, h⟩; have h' := h.symm; subst h') | (go_at_call 31; with_reducible refine (O.out _).mono ?_; rintro e w1 ⟨rfl, h⟩; have h' := h.symm; subst h') | (go_at_call 30; with_reducible refine (R0.out _).mono ?_; rintro e w1 ⟨rfl, h⟩; have h' := h.symm; subst h'))
    refine wp_region_sub2 (by kernel_rfl) (by kernel_rfl) ?_
    intro cx
    repeat (first | go_big_quiet_skip | (go_big_quiet_want; go_big_quiet_op; first | go_big_quiet_on | (refine ⟨_, fun _ => rfl, ?_⟩; go_big_quiet_on) | go_big_quiet_call (first | (go_at_call 28; with_reducible exact calls_sub_same (E.out _)) | (go_at_call 31; with_reducible exact calls_sub_same (O.out _)) | (go_at_call 30; with_reducible exact calls_sub_same (R0.out _)))))
    refine wpQuiet_nil ?_
    rintro _ ⟨y, rfl⟩
    have Y : Hid (Below w.heap.size w y.w) := y.h
    have y0 := c0 y
    clear cx
    go_wp2_with (first | (go_at_call 28; with_reducible refine (E.out _).mono ?_; rintro e w1 ⟨rfl, h⟩; have h' := h.symm; subst h') | (go_at_call 29; refine Calls.mono A.out ?_; rintro e w1 ⟨rfl, h⟩; have h' := h.symm; subst h') | (go_at_call 31; with_reducible refine (O.out _).mono ?_; rintro e w1 ⟨rfl, h⟩; have h' := h.symm; subst h') | (go_at_call 30; with_reducible refine (R0.out _).mono ?_; rintro e w1 ⟨rfl, h⟩; have h' := h.symm; subst h'))
    go_ret
    exact ⟨rfl, Y.out⟩
set_option maxRecDepth 20000 in
set_option maxHeartbeats 1000000 in
theorem gv_3 (a : Addr) (n cap : Nat) (κ : Nat → Int) (w : World) (hk : KsAt w a n κ) (h1 : 1 ≤ n) (h2 : n ≤ 16) (he : 1 ≤ κ 0 ∧ κ 0 ≤ 19) :
    Calls Tryz.prog 14 #[.int .i64 3, .slice (some a) n cap] w fun e w' => e = .returned (.int .u8 (if n = 2 then resK 3 (κ 0) (κ 1) else if 2 < n ∧ allS n κ = true ∧ resK 3 (κ 0) (κ 0) = κ 0 then κ 0 else 0)) ∧ Below w.heap.size w w' := by
  have g1 : ¬ (n : Int) < 1 := by omega
  have g2 : ¬ (16 : Int) < n := by omega
  have g3 : (0 : Int) < n := by omega
  have d0 : w.cell? a = some (.int .u8 (κ 0)) := by have := hk 0 (by omega); rwa [Addr.add_zero'] at this
  have c0 : ∀ x : Sub w, x.w.cell? a = some (.int .u8 (κ 0)) := fun x => by rw [x.h.cell (block_lt_of_cell d0)]; exact d0
  have E : Hid (∀ w, Calls Tryz.prog 28 #[.int .u8 (κ 0)] w fun e w' => e = .returned (.bool true) ∧ w' = w) := fun w => elem_is _ w true (decide_eq_true he)
  have A : Hid (Calls Tryz.prog 29 #[.slice (some a) n cap] w fun e w' => e = .returned (.bool (allS n κ)) ∧ w' = w) := alikeR_of a n cap κ w hk (by omega) (by omega)
  have O : Hid (∀ w, Calls Tryz.prog 31 #[.int .i64 3] w fun e w' => e = .returned (.int .i64 3) ∧ w' = w) := fun w => opR_of 3 (by decide) (by decide) w
  have R1 : Hid (∀ w, Calls Tryz.prog 30 #[.int .i64 3, .int .u8 (κ 0), .int .u8 (κ 1)] w fun e w' => e = .returned (.int .u8 (resK 3 (κ 0) (κ 1))) ∧ w' = w) := Result_of 3 _ _
  have R0 : Hid (∀ w, Calls Tryz.prog 30 #[.int .i64 3, .int .u8 (κ 0), .int .u8 (κ 0)] w fun e w' => e = .returned (.int .u8 (resK 3 (κ 0) (κ 0))) ∧ w' = w) := Result_of 3 _ _
  by_cases n2 : n = 2
  · subst n2
    rw [if_pos rfl]
    have d1 : w.cell? ⟨a.block, a.off + 1, none⟩ = some (.int .u8 (κ 1)) := hk 1 (by omega)
    have c1 : ∀ x : Sub w, x.w.cell? ⟨a.block, a.off + 1, none⟩ = some (.int .u8 (κ 1)) := fun x => by rw [x.h.cell (p := ⟨a.block, a.off + 1, none⟩) (block_lt_of_cell d1)]; exact d1
    clear hk
    generalize allS 2 κ = p at *
    generalize κ 1 = k1 at *
    generalize κ 0 = k0 at *
    generalize resK 3 k0 k1 = r at *
    go_enter Tryz.func14, Tryz.ntmps14
    go_wp2_with (first | (go_at_call 28; with_reducible refine (E.out _).mono ?_; rintro e w1 ⟨rfl, h⟩; have h' := h.symm; subst h') | (go_at_call 29; refine Calls.mono A.out ?_; rintro e w1 ⟨rfl, h⟩; have h' := h.symm; subst h') | (go_at_call 31; with_reducible refine (O.out _).mono ?_; rintro e w1 ⟨rfl, h⟩; have h' := h.symm; subst h') | (go_at_call 30; with_reducible refine (R1.out _).mono ?_; rintro e w1 ⟨rfl, h⟩; have h' := h.symm; subst h'))
    refine wp_region_sub2 (by kernel_rfl) (by kernel_rfl) ?_
    intro cx
    repeat (first | go_big_quiet_skip | (go_big_quiet_want; go_big_quiet_op; first | go_big_quiet_on | (refine ⟨_, fun _ => rfl, ?_⟩; go_big_quiet_on) | go_big_quiet_call (first | (go_at_call 28; with_reducible exact calls_sub_same (E.out _)) | (go_at_call 31; with_reducible exact calls_sub_same (O.out _)) | (go_at_call 30; with_reducible exact calls_sub_same (R1.out _)))))
    refine wpQuiet_nil ?_
    rintro _ ⟨y, rfl⟩
    have Y : Hid (Below w.heap.size w y.w) := y.h
    have y0 := c0 y
    clear cx
    go_wp2_with (first | (go_at_call 28; with_reducible refine (E.out _).mono ?_; rintro e w1 ⟨rfl, h⟩; have h' := h.symm; subst h') | (go_at_call 29; refine Calls.mono A.out ?_; rintro e w1 ⟨rfl, h⟩; have h' := h.symm; subst h') | (go_at_call 31; with_reducible refine (O.out _).mono ?_; rintro e w1 ⟨rfl, h⟩; have h' := h.symm; subst h') | (go_at_call 30; with_reducible refine (R1.out _).mono ?_; rintro e w1 ⟨rfl, h⟩; have h' := h.symm; subst h'))
    go_ret
    exact ⟨rfl, Y.out⟩
  rw [if_neg n2]
  have m2 : ((n : Int) == 2) = false := by simp; omega
  by_cases n3 : 2 < n
  · have m3 : (2 : Int) < n := by omega
    clear hk
    generalize allS n κ = p at *
    generalize κ 0 = k0 at *
    obtain ⟨q, eq⟩ : ∃ q, (resK 3 k0 k0 == k0) = q := ⟨_, rfl⟩
    obtain ⟨RR, hR⟩ : ∃ R, (if 2 < n ∧ p = true ∧ resK 3 k0 k0 = k0 then k0 else 0) = R := ⟨_, rfl⟩
    rw [hR]
    have HR : Hid ((if p = true ∧ q = true then k0 else 0) = RR) := by
      show _ = _
      rw [← hR]
      have : (resK 3 k0 k0 = k0) ↔ q = true := by rw [← eq]; simp
      simp [n3, this]
    clear hR n3 n2
    generalize resK 3 k0 k0 = r at *
    cases p
    · go_enter Tryz.func14, Tryz.ntmps14
      go_wp2_with (first | (go_at_call 28; with_reducible refine (E.out _).mono ?_; rintro e w1 ⟨rfl, h⟩; have h' := h.symm; subst h') | (go_at_call 29; refine Calls.mono A.out ?_; rintro e w1 ⟨rfl, h⟩; have h' := h.symm; subst h') | (go_at_call 31; with_reducible refine (O.out _).mono ?_; rintro e w1 ⟨rfl, h⟩; have h' := h.symm; subst h') | (go_at_call 30; with_reducible refine (R0.out _).mono ?_; rintro e w1 ⟨rfl, h⟩; have h' := h.symm; subst h'))
      refine wp_region_sub2 (by kernel_rfl) (by kernel_rfl) ?_
      intro cx
      repeat (first | go_big_quiet_skip | (go_big_quiet_want; go_big_quiet_op; first | go_big_quiet_on | (refine ⟨_, fun _ => rfl, ?_⟩; go_big_quiet_on) | go_big_quiet_call (first | (go_at_call 28; with_reducible exact calls_sub_same (E.out _)) | (go_at_call 31; with_reducible exact calls_sub_same (O.out _)) | (go_at_call 30; with_reducible exact calls_sub_same (R0.out _)))))
      refine wpQuiet_nil ?_
      rintro _ ⟨y, rfl⟩
      have Y : Hid (Below w.heap.size w y.w) := y.h
      have y0 := c0 y
      clear cx
      go_wp2_with (first | (go_at_call 28; with_reducible refine (E.out _).mono ?_; rintro e w1 ⟨rfl, h⟩; have h' := h.symm; subst h') | (go_at_call 29; refine Calls.mono A.out ?_; rintro e w1 ⟨rfl, h⟩; have h' := h.symm; subst h') | (go_at_call 31; with_reducible refine (O.out _).mono ?_; rintro e w1 ⟨rfl, h⟩; have h' := h.symm; subst h') | (go_at_call 30; with_reducible refine (R0.out _).mono ?_; rintro e w1 ⟨rfl, h⟩; have h' := h.symm; subst h'))
      go_ret
      exact ⟨by rw [← HR.out]; rfl, Y.out⟩
    · cases q
      · go_enter Tryz.func14, Tryz.ntmps14
        go_wp2_with (first | (go_at_call 28; with_reducible refine (E.out _).mono ?_; rintro e w1 ⟨rfl, h⟩; have h' := h.symm; subst h') | (go_at_call 29; refine Calls.mono A.out ?_; rintro e w1 ⟨rfl, h⟩; have h' := h.symm; subst h') | (go_at_call 31; with_reducible refine (O.out _).mono ?_; rintro e w1 ⟨rfl, h⟩; have h' := h.symm; subst h') | (go_at_call 30; with_reducible refine (R0.out _).mono ?_; rintro e w1 ⟨rfl, h⟩; have h' := h.symm; subst h'))
        refine wp_region_sub2 (by kernel_rfl) (by kernel_rfl) ?_
        intro cx
        repeat (first | go_big_quiet_skip | (go_big_quiet_want; go_big_quiet_op; first | go_big_quiet_on | (refine ⟨_, fun _ => rfl, ?_⟩; go_big_quiet_on) | go_big_quiet_call (first | (go_at_call 28; with_reducible exact calls_sub_same (E.out _)) | (go_at_call 31; with_reducible exact calls_sub_same (O.out _)) | (go_at_call 30; with_reducible exact calls_sub_same (R0.out _)))))
        refine wpQuiet_nil ?_
        rintro _ ⟨y, rfl⟩
        have Y : Hid (Below w.heap.size w y.w) := y.h
        have y0 := c0 y
        clear cx
        go_wp2_with (first | (go_at_call 28; with_reducible refine (E.out _).mono ?_; rintro e w1 ⟨rfl, h⟩; have h' := h.symm; subst h') | (go_at_call 29; refine Calls.mono A.out ?_; rintro e w1 ⟨rfl, h⟩; have h' := h.symm; subst h') | (go_at_call 31; with_reducible refine (O.out _).mono ?_; rintro e w1 ⟨rfl, h⟩; have h' := h.symm; subst h') | (go_at_call 30; with_reducible refine (R0.out _).mono ?_; rintro e w1 ⟨rfl, h⟩; have h' := h.symm; subst h'))
        go_ret
        exact ⟨by rw [← HR.out]; rfl, Y.out⟩
      · go_enter Tryz.func14, Tryz.ntmps14
        go_wp2_with (first | (go_at_call 28; with_reducible refine (E.out _).mono ?_; rintro e w1 ⟨rfl, h⟩; have h' := h.symm; subst h') | (go_at_call 29; refine Calls.mono A.out ?_; rintro e w1 ⟨rfl, h⟩; have h' := h.symm; subst h') | (go_at_call 31; with_reducible refine (O.out _).mono ?_; rintro e w1 ⟨rfl, h⟩; have h' := h.symm; subst h') | (go_at_call 30; with_reducible refine (R0.out _).mono ?_; rintro e w1 ⟨rfl, h⟩; have h' := h.symm; subst h'))
        refine wp_region_sub2 (by kernel_rfl) (by kernel_rfl) ?_
        intro cx
        repeat (first | go_big_quiet_skip | (go_big_quiet_want; go_big_quiet_op; first | go_big_quiet_on | (refine ⟨_, fun _ => rfl, ?_⟩; go_big_quiet_on) | go_big_quiet_call (first | (go_at_call 28; with_reducible exact calls_sub_same (E.out _)) | (go_at_call 31; with_reducible exact calls_sub_same (O.out _)) | (go_at_call 30; with_reducible exact calls_sub_same (R0.out _)))))
        refine wpQuiet_nil ?_
        rintro _ ⟨y, rfl⟩
        have Y : Hid (Below w.heap.size w y.w) := y.h
        have y0 := c0 y
        clear cx
        go_wp2_with (first | (go_at_call 28; with_reducible refine (E.out _).mono ?_; rintro e w1 ⟨rfl, h⟩; have h' := h.symm; subst h') | (go_at_call 29; refine Calls.mono A.out ?_; rintro e w1 ⟨rfl, h⟩; have h' := h.symm; subst h') | (go_at_call 31; with_reducible refine (O.out _).mono ?_; rintro e w1 ⟨rfl, h⟩; have h' := h.symm; subst h') | (go_at_call 30; with_reducible refine (R0.out _).mono ?_; rintro e w1 ⟨rfl, h⟩; have h' := h.symm; subst h'))
        go_ret
        exact ⟨by rw [← HR.out]; rfl, Y.out⟩
  · obtain rfl : n = 1 := by omega
    clear hk
    rw [if_neg (fun q => n3 q.1)]
    clear n3 n2
    generalize allS 1 κ = p at *
    go_enter Tryz.func14, Tryz.ntmps14
    go_wp2_with (first | (go_at_call 28; with_reducible refine (E.out _).mono ?_; rintro e w1 ⟨rfl, h⟩; have h' := h.symm; subst h') | (go_at_call 29; refine Calls.mono A.out ?_; rintro e w1 ⟨rfl, h⟩; have h' := h.symm; subst h') | (go_at_call 31; with_reducible refine (O.out _).mono ?_; rintro e w1 ⟨rfl, h⟩; have h' := h.symm; subst h') | (go_at_call 30; with_reducible refine (R0.out _).mono ?_; rintro e w1 ⟨rfl, h⟩; have h' := h.symm; subst h'))
    refine wp_region_sub2 (by kernel_rfl) (by kernel_rfl) ?_
    intro cx
    repeat (first | go_big_quiet_skip | (go_big_quiet_want; go_big_quiet_op; first | go_big_quiet_on | (refine ⟨_, fun _ => rfl, ?_⟩; go_big_quiet_on) | go_big_quiet_call (first | (go_at_call 28; with_reducible exact calls_sub_same (E.out _)) | (go_at_call 31; with_reducible exact calls_sub_same (O.out _)) | (go_at_call 30; with_reducible exact calls_sub_same (R0.out _)))))
    refine wpQuiet_nil ?_
    rintro _ ⟨y, rfl⟩
    have Y : Hid (Below w.heap.size w y.w) := y.h
    have y0 := c0 y
    clear cx
    go_wp2_with (first | (go_at_call 28; with_reducible refine (E.out _).mono ?_; rintro e w1 ⟨rfl, h⟩; have h' := h.symm; subst h') | (go_at_call 29; refine Calls.mono A.out ?_; rintro e w1 ⟨rfl, h⟩; have h' := h.symm; subst h') | (go_at_call 31; with_reducible refine (O.out _).mono ?_; rintro e w1 ⟨rfl, h⟩; have h' := h.symm; subst h') | (go_at_call 30; with_reducible refine (R0.out _).mono ?_; rintro e w1 ⟨rfl, h⟩; have h' := h.symm; subst h'))
    go_ret
    exact ⟨rfl, Y.out⟩
set_option maxRecDepth 20000 in
set_option maxHeartbeats 1000000 in
theorem gv_2 (a : Addr) (n cap : Nat) (κ : Nat → Int) (w : World) (hk : KsAt w a n κ) (h1 : 1 ≤ n) (h2 : n ≤ 16) (he : 1 ≤ κ 0 ∧ κ 0 ≤ 19) :
    Calls Tryz.prog 14 #[.int .i64 2, .slice (some a) n cap] w fun e w' => e = .returned (.int .u8 (if n = 2 then resK 2 (κ 0) (κ 1) else 0)) ∧ Below w.heap.size w w' := by
  have g1 : ¬ (n : Int) < 1 := by omega
  have g2 : ¬ (16 : Int) < n := by omega
  have g3 : (0 : Int) < n := by omega
  have d0 : w.cell? a = some (.int .u8 (κ 0)) := by have := hk 0 (by omega); rwa [Addr.add_zero'] at this
  have c0 : ∀ x : Sub w, x.w.cell? a = some (.int .u8 (κ 0)) := fun x => by rw [x.h.cell (block_lt_of_cell d0)]; exact d0
  have E : Hid (∀ w, Calls Tryz.prog 28 #[.int .u8 (κ 0)] w fun e w' => e = .returned (.bool true) ∧ w' = w) := fun w => elem_is _ w true (decide_eq_true he)
  have A : Hid (Calls Tryz.prog 29 #[.slice (some a) n cap] w fun e w' => e = .returned (.bool (allS n κ)) ∧ w' = w) := alikeR_of a n cap κ w hk (by omega) (by omega)
  have O : Hid (∀ w, Calls Tryz.prog 31 #[.int .i64 2] w fun e w' => e = .returned (.int .i64 2) ∧ w' = w) := fun w => opR_of 2 (by decide) (by decide) w
  have R1 : Hid (∀ w, Calls Tryz.prog 30 #[.int .i64 2, .int .u8 (κ 0), .int .u8 (κ 1)] w fun e w' => e = .returned (.int .u8 (resK 2 (κ 0) (κ 1))) ∧ w' = w) := Result_of 2 _ _
  have R0 : Hid (∀ w, Calls Tryz.prog 30 #[.int .i64 2, .int .u8 (κ 0), .int .u8 (κ 0)] w fun e w' => e = .returned (.int .u8 (resK 2 (κ 0) (κ 0))) ∧ w' = w) := Result_of 2 _ _
  by_cases n2 : n = 2
  · subst n2
    rw [if_pos rfl]
    have d1 : w.cell? ⟨a.block, a.off + 1, none⟩ = some (.int .u8 (κ 1)) := hk 1 (by omega)
    have c1 : ∀ x : Sub w, x.w.cell? ⟨a.block, a.off + 1, none⟩ = some (.int .u8 (κ 1)) := fun x => by rw [x.h.cell (p := ⟨a.block, a.off + 1, none⟩) (block_lt_of_cell d1)]; exact d1
    clear hk
    generalize allS 2 κ = p at *
    generalize κ 1 = k1 at *
    generalize κ 0 = k0 at *
    generalize resK 2 k0 k1 = r at *
    go_enter Tryz.func14, Tryz.ntmps14
    go_wp2_with (first | (go_at_call 28; with_reducible refine (E.out _).mono ?_; rintro e w1 ⟨rfl, h⟩; have h' := h.symm; subst h') | (go_at_call 29; refine Calls.mono A.out ?_; rintro e w1 ⟨rfl, h⟩; have h' := h.symm; subst h') | (go_at_call 31; with_reducible refine (O.out _).mono ?_; rintro e w1 ⟨rfl, h⟩; have h' := h.symm; subst h') | (go_at_call 30; with_reducible refine (R1.out _).mono ?_; rintro e w1 ⟨rfl, h⟩; have h' := h.symm; subst h'))
    refine wp_region_sub2 (by kernel_rfl) (by kernel_rfl) ?_
    intro cx
    repeat (first | go_big_quiet_skip | (go_big_quiet_want; go_big_quiet_op; first | go_big_quiet_on | (refine ⟨_, fun _ => rfl, ?_⟩; go_big_quiet_on) | go_big_quiet_call (first | (go_at_call 28; with_reducible exact calls_sub_same (E.out _)) | (go_at_call 31; with_reducible exact calls_sub_same (O.out _)) | (go_at_call 30; with_reducible exact calls_sub_same (R1.out _)))))
    refine wpQuiet_nil ?_
    rintro _ ⟨y, rfl⟩
    have Y : Hid (Below w.heap.size w y.w) := y.h
    have y0 := c0 y
    clear cx
    go_wp2_with (first | (go_at_call 28; with_reducible refine (E.out _).mono ?_; rintro e w1 ⟨rfl, h⟩; have h' := h.symm; subst h') | (go_at_call 29; refine Calls.mono A.out ?_; rintro e w1 ⟨rfl, h⟩; have h' := h.symm; subst h') | (go_at_call 31; with_reducible refine (O.out _).mono ?_; rintro e w1 ⟨rfl, h⟩; have h' := h.symm; subst h') | (go_at_call 30; with_reducible refine (R1.out _).mono ?_; rintro e w1 ⟨rfl, h⟩; have h' := h.symm; subst h'))
    go_ret
    exact ⟨rfl, Y.out⟩
  · rw [if_neg n2]
    have m2 : ((n : Int) == 2) = false := by simp; omega
    clear hk n2
    generalize allS n κ = p at *
    generalize κ 0 = k0 at *
    go_enter Tryz.func14, Tryz.ntmps14
    go_wp2_with (first | (go_at_call 28; with_reducible refine (E.out _).mono ?_; rintro e w1 ⟨rfl, h⟩; have h' := h.symm; subst h') | (go_at_call 29; refine Calls.mono A.out ?_; rintro e w1 ⟨rfl, h⟩; have h' := h.symm; subst h') | (go_at_call 31; with_reducible refine (O.out _).mono ?_; rintro e w1 ⟨rfl, h⟩; have h' := h.symm; subst h') | (go_at_call 30; with_reducible refine (R0.out _).mono ?_; rintro e w1 ⟨rfl, h⟩; have h' := h.symm; subst h'))
    go_ret
    exact ⟨rfl, Below.refl _ _⟩
set_option maxRecDepth 20000 in
set_option maxHeartbeats 1000000 in
theorem gv_4 (a : Addr) (n cap : Nat) (κ : Nat → Int) (w : World) (hk : KsAt w a n κ) (h1 : 1 ≤ n) (h2 : n ≤ 16) (he : 1 ≤ κ 0 ∧ κ 0 ≤ 19) :
    Calls Tryz.prog 14 #[.int .i64 4, .slice (some a) n cap] w fun e w' => e = .returned (.int .u8 (if n = 2 then resK 4 (κ 0) (κ 1) else 0)) ∧ Below w.heap.size w w' := by
  have g1 : ¬ (n : Int) < 1 := by omega
  have g2 : ¬ (16 : Int) < n := by omega
  have g3 : (0 : Int) < n := by omega
  have d0 : w.cell? a = some (.int .u8 (κ 0)) := by have := hk 0 (by omega); rwa [Addr.add_zero'] at this
  have c0 : ∀ x : Sub w, x.w.cell? a = some (.int .u8 (κ 0)) := fun x => by rw [x.h.cell (block_lt_of_cell d0)]; exact d0
  have E : Hid (∀ w, Calls Tryz.prog 28 #[.int .u8 (κ 0)] w fun e w' => e = .returned (.bool true) ∧ w' = w) := fun w => elem_is _ w true (decide_eq_true he)
  have A : Hid (Calls Tryz.prog 29 #[.slice (some a) n cap] w fun e w' => e = .returned (.bool (allS n κ)) ∧ w' = w) := alikeR_of a n cap κ w hk (by omega) (by omega)
  have O : Hid (∀ w, Calls Tryz.prog 31 #[.int .i64 4] w fun e w' => e = .returned (.int .i64 4) ∧ w' = w) := fun w => opR_of 4 (by decide) (by decide) w
  have R1 : Hid (∀ w, Calls Tryz.prog 30 #[.int .i64 4, .int .u8 (κ 0), .int .u8 (κ 1)] w fun e w' => e = .returned (.int .u8 (resK 4 (κ 0) (κ 1))) ∧ w' = w) := Result_of 4 _ _
  have R0 : Hid (∀ w, Calls Tryz.prog 30 #[.int .i64 4, .int .u8 (κ 0), .int .u8 (κ 0)] w fun e w' => e = .returned (.int .u8 (resK 4 (κ 0) (κ 0))) ∧ w' = w) := Result_of 4 _ _
  by_cases n2 : n = 2
  · subst n2
    rw [if_pos rfl]
    have d1 : w.cell? ⟨a.block, a.off + 1, none⟩ = some (.int .u8 (κ 1)) := hk 1 (by omega)
    have c1 : ∀ x : Sub w, x.w.cell? ⟨a.block, a.off + 1, none⟩ = some (.int .u8 (κ 1)) := fun x => by rw [x.h.cell (p := ⟨a.block, a.off + 1, none⟩) (block_lt_of_cell d1)]; exact d1
    clear hk
    generalize allS 2 κ = p at *
    generalize κ 1 = k1 at *
    generalize κ 0 = k0 at *
    generalize resK 4 k0 k1 = r at *
    go_enter Tryz.func14, Tryz.ntmps14
    go_wp2_with (first | (go_at_call 28; with_reducible refine (E.out _).mono ?_; rintro e w1 ⟨rfl, h⟩; have h' := h.symm; subst h') | (go_at_call 29; refine Calls.mono A.out ?_; rintro e w1 ⟨rfl, h⟩; have h' := h.symm; subst h') | (go_at_call 31; with_reducible refine (O.out _).mono ?_; rintro e w1 ⟨rfl, h⟩; have h' := h.symm; subst h') | (go_at_call 30; with_reducible refine (R1.out _).mono ?_; rintro e w1 ⟨rfl, h⟩; have h' := h.symm; subst h'))
    refine wp_region_sub2 (by kernel_rfl) (by kernel_rfl) ?_
    intro cx
    repeat (first | go_big_quiet_skip | (go_big_quiet_want; go_big_quiet_op; first | go_big_quiet_on | (refine ⟨_, fun _ => rfl, ?_⟩; go_big_quiet_on) | go_big_quiet_call (first | (go_at_call 28; with_reducible exact calls_sub_same (E.out _)) | (go_at_call 31; with_reducible exact calls_sub_same (O.out _)) | (go_at_call 30; with_reducible exact calls_sub_same (R1.out _)))))
    refine wpQuiet_nil ?_
    rintro _ ⟨y, rfl⟩
    have Y : Hid (Below w.heap.size w y.w) := y.h
    have y0 := c0 y
    clear cx
    go_wp2_with (first | (go_at_call 28; with_reducible refine (E.out _).mono ?_; rintro e w1 ⟨rfl, h⟩; have h' := h.symm; subst h') | (go_at_call 29; refine Calls.mono A.out ?_; rintro e w1 ⟨rfl, h⟩; have h' := h.symm; subst h') | (go_at_call 31; with_reducible refine (O.out _).mono ?_; rintro e w1 ⟨rfl, h⟩; have h' := h.symm; subst h') | (go_at_call 30; with_reducible refine (R1.out _).mono ?_; rintro e w1 ⟨rfl, h⟩; have h' := h.symm; subst h'))
    go_ret
    exact ⟨rfl, Y.out⟩
  · rw [if_neg n2]
    have m2 : ((n : Int) == 2) = false := by simp; omega
    clear hk n2
    generalize allS n κ = p at *
    generalize κ 0 = k0 at *
    go_enter Tryz.func14, Tryz.ntmps14
    go_wp2_with (first | (go_at_call 28; with_reducible refine (E.out _).mono ?_; rintro e w1 ⟨rfl, h⟩; have h' := h.symm; subst h') | (go_at_call 29; refine Calls.mono A.out ?_; rintro e w1 ⟨rfl, h⟩; have h' := h.symm; subst h') | (go_at_call 31; with_reducible refine (O.out _).mono ?_; rintro e w1 ⟨rfl, h⟩; have h' := h.symm; subst h') | (go_at_call 30; with_reducible refine (R0.out _).mono ?_; rintro e w1 ⟨rfl, h⟩; have h' := h.symm; subst h'))
    go_ret
    exact ⟨rfl, Below.refl _ _⟩
set_option maxRecDepth 20000 in
set_option maxHeartbeats 1000000 in
theorem gv_5 (a : Addr) (n cap : Nat) (κ : Nat → Int) (w : World) (hk : KsAt w a n κ) (h1 : 1 ≤ n) (h2 : n ≤ 16) (he : 1 ≤ κ 0 ∧ κ 0 ≤ 19) :
    Calls Tryz.prog 14 #[.int .i64 5, .slice (some a) n cap] w fun e w' => e = .returned (.int .u8 (if n = 2 then resK 5 (κ 0) (κ 1) else 0)) ∧ Below w.heap.size w w' := by
  have g1 : ¬ (n : Int) < 1 := by omega
  have g2 : ¬ (16 : Int) < n := by omega
  have g3 : (0 : Int) < n := by omega
  have d0 : w.cell? a = some (.int .u8 (κ 0)) := by have := hk 0 (by omega); rwa [Addr.add_zero'] at this
  have c0 : ∀ x : Sub w, x.w.cell? a = some (.int .u8 (κ 0)) := fun x => by rw [x.h.cell (block_lt_of_cell d0)]; exact d0
  have E : Hid (∀ w, Calls Tryz.prog 28 #[.int .u8 (κ 0)] w fun e w' => e = .returned (.bool true) ∧ w' = w) := fun w => elem_is _ w true (decide_eq_true he)
  have A : Hid (Calls Tryz.prog 29 #[.slice (some a) n cap] w fun e w' => e = .returned (.bool (allS n κ)) ∧ w' = w) := alikeR_of a n cap κ w hk (by omega) (by omega)
  have O : Hid (∀ w, Calls Tryz.prog 31 #[.int .i64 5] w fun e w' => e = .returned (.int .i64 5) ∧ w' = w) := fun w => opR_of 5 (by decide) (by decide) w
  have R1 : Hid (∀ w, Calls Tryz.prog 30 #[.int .i64 5, .int .u8 (κ 0), .int .u8 (κ 1)] w fun e w' => e = .returned (.int .u8 (resK 5 (κ 0) (κ 1))) ∧ w' = w) := Result_of 5 _ _
  have R0 : Hid (∀ w, Calls Tryz.prog 30 #[.int .i64 5, .int .u8 (κ 0), .int .u8 (κ 0)] w fun e w' => e = .returned (.int .u8 (resK 5 (κ 0) (κ 0))) ∧ w' = w) := Result_of 5 _ _
  by_cases n2 : n = 2
  · subst n2
    rw [if_pos rfl]
    have d1 : w.cell? ⟨a.block, a.off + 1, none⟩ = some (.int .u8 (κ 1)) := hk 1 (by omega)
    have c1 : ∀ x : Sub w, x.w.cell? ⟨a.block, a.off + 1, none⟩ = some (.int .u8 (κ 1)) := fun x => by rw [x.h.cell (p := ⟨a.block, a.off + 1, none⟩) (block_lt_of_cell d1)]; exact d1
    clear hk
    generalize allS 2 κ = p at *
    generalize κ 1 = k1 at *
    generalize κ 0 = k0 at *
    generalize resK 5 k0 k1 = r at *
    go_enter Tryz.func14, Tryz.ntmps14
    go_wp2_with (first | (go_at_call 28; with_reducible refine (E.out _).mono ?_; rintro e w1 ⟨rfl, h⟩; have h' := h.symm; subst h') | (go_at_call 29; refine Calls.mono A.out ?_; rintro e w1 ⟨rfl, h⟩; have h' := h.symm; subst h') | (go_at_call 31; with_reducible refine (O.out _).mono ?_; rintro e w1 ⟨rfl, h⟩; have h' := h.symm; subst h') | (go_at_call 30; with_reducible refine (R1.out _).mono ?_; rintro e w1 ⟨rfl, h⟩; have h' := h.symm; subst h'))
    refine wp_region_sub2 (by kernel_rfl) (by kernel_rfl) ?_
    intro cx
    repeat (first | go_big_quiet_skip | (go_big_quiet_want; go_big_quiet_op; first | go_big_quiet_on | (refine ⟨_, fun _ => rfl, ?_⟩; go_big_quiet_on) | go_big_quiet_call (first | (go_at_call 28; with_reducible exact calls_sub_same (E.out _)) | (go_at_call 31; with_reducible exact calls_sub_same (O.out _)) | (go_at_call 30; with_reducible exact calls_sub_same (R1.out _)))))
    refine wpQuiet_nil ?_
    rintro _ ⟨y, rfl⟩
    have Y : Hid (Below w.heap.size w y.w) := y.h
    have y0 := c0 y
    clear cx
    go_wp2_with (first | (go_at_call 28; with_reducible refine (E.out _).mono ?_; rintro e w1 ⟨rfl, h⟩; have h' := h.symm; subst h') | (go_at_call 29; refine Calls.mono A.out ?_; rintro e w1 ⟨rfl, h⟩; have h' := h.symm; subst h') | (go_at_call 31; with_reducible refine (O.out _).mono ?_; rintro e w1 ⟨rfl, h⟩; have h' := h.symm; subst h') | (go_at_call 30; with_reducible refine (R1.out _).mono ?_; rintro e w1 ⟨rfl, h⟩; have h' := h.symm; subst h'))
    go_ret
    exact ⟨rfl, Y.out⟩
  · rw [if_neg n2]
    have m2 : ((n : Int) == 2) = false := by simp; omega
    clear hk n2
    generalize allS n κ = p at *
    generalize κ 0 = k0 at *
    go_enter Tryz.func14, Tryz.ntmps14
    go_wp2_with (first | (go_at_call 28; with_reducible refine (E.out _).mono ?_; rintro e w1 ⟨rfl, h⟩; have h' := h.symm; subst h') | (go_at_call 29; refine Calls.mono A.out ?_; rintro e w1 ⟨rfl, h⟩; have h' := h.symm; subst h') | (go_at_call 31; with_reducible refine (O.out _).mono ?_; rintro e w1 ⟨rfl, h⟩; have h' := h.symm; subst h') | (go_at_call 30; with_reducible refine (R0.out _).mono ?_; rintro e w1 ⟨rfl, h⟩; have h' := h.symm; subst h'))
    go_ret
    exact ⟨rfl, Below.refl _ _⟩
end Go.Proofs.YtpaibmganlaaeaaGreatDoor
