/- The document's gives, for single functions; no statement of the seat is proved here. -/
import Derived.Test.YtpaibmganlaaeaaGreatDoorFz28
namespace Go.Proofs.YtpaibmganlaaeaaGreatDoor
set_option linter.unusedVariables false
open Go.RowKit
set_option maxRecDepth 20000 in
set_option maxHeartbeats 1000000 in
theorem ov_9 (a : Addr) (n cap : Nat) (κ : Nat → Int) (w : World) (hk : KsAt w a n κ) (h1 : 1 ≤ n) (h2 : n ≤ 16) (hcap : n ≤ cap) (hr : ∀ i, 0 ≤ κ i ∧ κ i < 256) :
    Calls Tryz.prog 33 #[.int .i64 9, .slice (some a) n cap] w fun e w' => e = .returned (.int .u8 (if n = 1 then gvK (κ 0) (κ 0 == 1 || rowK (κ 0)) else 0)) ∧ Below w.heap.size w w' := by
  have g3 : (0 : Int) < n := by omega
  have d0 : w.cell? a = some (.int .u8 (κ 0)) := by have := hk 0 (by omega); rwa [Addr.add_zero'] at this
  have c0 : ∀ x : Sub w, x.w.cell? a = some (.int .u8 (κ 0)) := fun x => by rw [x.h.cell (block_lt_of_cell d0)]; exact d0
  have F : Hid (∀ W, Below w.heap.size w W → Calls Tryz.prog 80 #[.slice (some a) n cap] W fun e w' => e = .returned (.bool (allI (n - 1) (fun i => κ (1 + i)))) ∧ w' = W) := fun W hb => func2_of a n cap κ W (hk.below hb) (by omega) h1 hcap hr
  have RW : Hid (∀ w, Calls Tryz.prog 77 #[.int .u8 (κ 0)] w fun e w' => e = .returned (.bool (rowK (κ 0))) ∧ w' = w) := fun w => RowR_iz _ w (hr 0)
  by_cases nn : n = 1
  · rw [if_pos nn]
    subst nn
    clear hk hr
    generalize allI (1 - 1) (fun i => κ (1 + i)) = wh at *
    generalize κ 0 = k0 at *
    obtain ⟨b0, eb0⟩ : ∃ b, (k0 == 1) = b := ⟨_, rfl⟩
    rw [eb0]
    generalize rowK (k0) = b1 at *
    cases b0 <;> cases b1
    all_goals
      go_enter Tryz.func33, Tryz.ntmps33
      go_wp2_with fail
      refine wp_region_sub2 (by kernel_rfl) (by kernel_rfl) ?_
      intro cx
      repeat (first | go_big_quiet_skip | (go_big_quiet_want; go_big_quiet_op; first | go_big_quiet_on | (refine ⟨_, fun _ => rfl, ?_⟩; go_big_quiet_on)))
      refine wpQuiet_nil ?_
      rintro _ ⟨y, rfl⟩
      have Y : Hid (Below w.heap.size w y.w) := y.h
      have y0 := c0 y
      clear cx c0 d0
      generalize y.w = W at *
      go_wp2_with (first | (go_at_call 80; refine (F.out _ Y.out).mono ?_; rintro e w1 ⟨rfl, h⟩; have h' := h.symm; subst h') | (go_at_call 77; with_reducible refine (RW.out _).mono ?_; rintro e w1 ⟨rfl, h⟩; have h' := h.symm; subst h'))
      go_ret
      exact ⟨rfl, Y.out⟩
  · rw [if_neg nn]
    have m2 : ((n : Int) == 1) = false := by simp; omega
    clear nn
    generalize allI (n - 1) (fun i => κ (1 + i)) = wh at *
    generalize κ 0 = k0 at *
    clear hk hr
    go_enter Tryz.func33, Tryz.ntmps33
    go_wp2_with fail
    refine wp_region_sub2 (by kernel_rfl) (by kernel_rfl) ?_
    intro cx
    repeat (first | go_big_quiet_skip | (go_big_quiet_want; go_big_quiet_op; first | go_big_quiet_on | (refine ⟨_, fun _ => rfl, ?_⟩; go_big_quiet_on)))
    refine wpQuiet_nil ?_
    rintro _ ⟨y, rfl⟩
    have Y : Hid (Below w.heap.size w y.w) := y.h
    have y0 := c0 y
    clear cx c0 d0
    generalize y.w = W at *
    go_wp2_with (first | (go_at_call 80; refine (F.out _ Y.out).mono ?_; rintro e w1 ⟨rfl, h⟩; have h' := h.symm; subst h'))
    go_ret
    exact ⟨rfl, Y.out⟩
set_option maxRecDepth 20000 in
set_option maxHeartbeats 1000000 in
theorem ov_16 (a : Addr) (n cap : Nat) (κ : Nat → Int) (w : World) (hk : KsAt w a n κ) (h1 : 1 ≤ n) (h2 : n ≤ 16) (hcap : n ≤ cap) (hr : ∀ i, 0 ≤ κ i ∧ κ i < 256) :
    Calls Tryz.prog 33 #[.int .i64 16, .slice (some a) n cap] w fun e w' => e = .returned (.int .u8 (if n = 1 then gvK (κ 0) true else 0)) ∧ Below w.heap.size w w' := by
  have g3 : (0 : Int) < n := by omega
  have d0 : w.cell? a = some (.int .u8 (κ 0)) := by have := hk 0 (by omega); rwa [Addr.add_zero'] at this
  have c0 : ∀ x : Sub w, x.w.cell? a = some (.int .u8 (κ 0)) := fun x => by rw [x.h.cell (block_lt_of_cell d0)]; exact d0
  have F : Hid (∀ W, Below w.heap.size w W → Calls Tryz.prog 80 #[.slice (some a) n cap] W fun e w' => e = .returned (.bool (allI (n - 1) (fun i => κ (1 + i)))) ∧ w' = W) := fun W hb => func2_of a n cap κ W (hk.below hb) (by omega) h1 hcap hr
  by_cases nn : n = 1
  · rw [if_pos nn]
    subst nn
    clear hk hr
    generalize allI (1 - 1) (fun i => κ (1 + i)) = wh at *
    generalize κ 0 = k0 at *
    go_enter Tryz.func33, Tryz.ntmps33
    go_wp2_with fail
    refine wp_region_sub2 (by kernel_rfl) (by kernel_rfl) ?_
    intro cx
    repeat (first | go_big_quiet_skip | (go_big_quiet_want; go_big_quiet_op; first | go_big_quiet_on | (refine ⟨_, fun _ => rfl, ?_⟩; go_big_quiet_on)))
    refine wpQuiet_nil ?_
    rintro _ ⟨y, rfl⟩
    have Y : Hid (Below w.heap.size w y.w) := y.h
    have y0 := c0 y
    clear cx c0 d0
    generalize y.w = W at *
    go_wp2_with (first | (go_at_call 80; refine (F.out _ Y.out).mono ?_; rintro e w1 ⟨rfl, h⟩; have h' := h.symm; subst h'))
    go_ret
    exact ⟨rfl, Y.out⟩
  · rw [if_neg nn]
    have m2 : ((n : Int) == 1) = false := by simp; omega
    clear nn
    generalize allI (n - 1) (fun i => κ (1 + i)) = wh at *
    generalize κ 0 = k0 at *
    clear hk hr
    go_enter Tryz.func33, Tryz.ntmps33
    go_wp2_with fail
    refine wp_region_sub2 (by kernel_rfl) (by kernel_rfl) ?_
    intro cx
    repeat (first | go_big_quiet_skip | (go_big_quiet_want; go_big_quiet_op; first | go_big_quiet_on | (refine ⟨_, fun _ => rfl, ?_⟩; go_big_quiet_on)))
    refine wpQuiet_nil ?_
    rintro _ ⟨y, rfl⟩
    have Y : Hid (Below w.heap.size w y.w) := y.h
    have y0 := c0 y
    clear cx c0 d0
    generalize y.w = W at *
    go_wp2_with (first | (go_at_call 80; refine (F.out _ Y.out).mono ?_; rintro e w1 ⟨rfl, h⟩; have h' := h.symm; subst h'))
    go_ret
    exact ⟨rfl, Y.out⟩
set_option maxRecDepth 20000 in
set_option maxHeartbeats 1000000 in
theorem ov_17 (a : Addr) (n cap : Nat) (κ : Nat → Int) (w : World) (hk : KsAt w a n κ) (h1 : 1 ≤ n) (h2 : n ≤ 16) (hcap : n ≤ cap) (hr : ∀ i, 0 ≤ κ i ∧ κ i < 256) :
    Calls Tryz.prog 33 #[.int .i64 17, .slice (some a) n cap] w fun e w' => e = .returned (.int .u8 (if n = 1 then gvK (κ 0) (intK (κ 0) || κ 0 == 18 || κ 0 == 14) else 0)) ∧ Below w.heap.size w w' := by
  have g3 : (0 : Int) < n := by omega
  have d0 : w.cell? a = some (.int .u8 (κ 0)) := by have := hk 0 (by omega); rwa [Addr.add_zero'] at this
  have c0 : ∀ x : Sub w, x.w.cell? a = some (.int .u8 (κ 0)) := fun x => by rw [x.h.cell (block_lt_of_cell d0)]; exact d0
  have F : Hid (∀ W, Below w.heap.size w W → Calls Tryz.prog 80 #[.slice (some a) n cap] W fun e w' => e = .returned (.bool (allI (n - 1) (fun i => κ (1 + i)))) ∧ w' = W) := fun W hb => func2_of a n cap κ W (hk.below hb) (by omega) h1 hcap hr
  have I0 : Hid (∀ w, Calls Tryz.prog 32 #[.int .u8 (κ 0)] w fun e w' => e = .returned (.bool (intK (κ 0))) ∧ w' = w) := fun w => IntR_is _ w (hr 0)
  by_cases nn : n = 1
  · rw [if_pos nn]
    subst nn
    clear hk hr
    generalize allI (1 - 1) (fun i => κ (1 + i)) = wh at *
    generalize κ 0 = k0 at *
    generalize intK (k0) = b0 at *
    obtain ⟨b1, eb1⟩ : ∃ b, (k0 == 18) = b := ⟨_, rfl⟩
    rw [eb1]
    obtain ⟨b2, eb2⟩ : ∃ b, (k0 == 14) = b := ⟨_, rfl⟩
    rw [eb2]
    cases b0 <;> cases b1 <;> cases b2
    all_goals
      go_enter Tryz.func33, Tryz.ntmps33
      go_wp2_with fail
      refine wp_region_sub2 (by kernel_rfl) (by kernel_rfl) ?_
      intro cx
      repeat (first | go_big_quiet_skip | (go_big_quiet_want; go_big_quiet_op; first | go_big_quiet_on | (refine ⟨_, fun _ => rfl, ?_⟩; go_big_quiet_on)))
      refine wpQuiet_nil ?_
      rintro _ ⟨y, rfl⟩
      have Y : Hid (Below w.heap.size w y.w) := y.h
      have y0 := c0 y
      clear cx c0 d0
      generalize y.w = W at *
      go_wp2_with (first | (go_at_call 80; refine (F.out _ Y.out).mono ?_; rintro e w1 ⟨rfl, h⟩; have h' := h.symm; subst h') | (go_at_call 32; with_reducible refine (I0.out _).mono ?_; rintro e w1 ⟨rfl, h⟩; have h' := h.symm; subst h'))
      go_ret
      exact ⟨rfl, Y.out⟩
  · rw [if_neg nn]
    have m2 : ((n : Int) == 1) = false := by simp; omega
    clear nn
    generalize allI (n - 1) (fun i => κ (1 + i)) = wh at *
    generalize κ 0 = k0 at *
    clear hk hr
    go_enter Tryz.func33, Tryz.ntmps33
    go_wp2_with fail
    refine wp_region_sub2 (by kernel_rfl) (by kernel_rfl) ?_
    intro cx
    repeat (first | go_big_quiet_skip | (go_big_quiet_want; go_big_quiet_op; first | go_big_quiet_on | (refine ⟨_, fun _ => rfl, ?_⟩; go_big_quiet_on)))
    refine wpQuiet_nil ?_
    rintro _ ⟨y, rfl⟩
    have Y : Hid (Below w.heap.size w y.w) := y.h
    have y0 := c0 y
    clear cx c0 d0
    generalize y.w = W at *
    go_wp2_with (first | (go_at_call 80; refine (F.out _ Y.out).mono ?_; rintro e w1 ⟨rfl, h⟩; have h' := h.symm; subst h'))
    go_ret
    exact ⟨rfl, Y.out⟩
set_option maxRecDepth 20000 in
set_option maxHeartbeats 1000000 in
theorem ov_23 (a : Addr) (n cap : Nat) (κ : Nat → Int) (w : World) (hk : KsAt w a n κ) (h1 : 1 ≤ n) (h2 : n ≤ 16) (hcap : n ≤ cap) (hr : ∀ i, 0 ≤ κ i ∧ κ i < 256) :
    Calls Tryz.prog 33 #[.int .i64 23, .slice (some a) n cap] w fun e w' => e = .returned (.int .u8 (if n = 2 then gvK (κ 0) (rowK (κ 0) && allI (n - 1) (fun i => κ (1 + i))) else 0)) ∧ Below w.heap.size w w' := by
  have g3 : (0 : Int) < n := by omega
  have d0 : w.cell? a = some (.int .u8 (κ 0)) := by have := hk 0 (by omega); rwa [Addr.add_zero'] at this
  have c0 : ∀ x : Sub w, x.w.cell? a = some (.int .u8 (κ 0)) := fun x => by rw [x.h.cell (block_lt_of_cell d0)]; exact d0
  have F : Hid (∀ W, Below w.heap.size w W → Calls Tryz.prog 80 #[.slice (some a) n cap] W fun e w' => e = .returned (.bool (allI (n - 1) (fun i => κ (1 + i)))) ∧ w' = W) := fun W hb => func2_of a n cap κ W (hk.below hb) (by omega) h1 hcap hr
  have RW : Hid (∀ w, Calls Tryz.prog 77 #[.int .u8 (κ 0)] w fun e w' => e = .returned (.bool (rowK (κ 0))) ∧ w' = w) := fun w => RowR_iz _ w (hr 0)
  by_cases nn : n = 2
  · rw [if_pos nn]
    subst nn
    clear hk hr
    generalize allI (2 - 1) (fun i => κ (1 + i)) = wh at *
    generalize κ 0 = k0 at *
    generalize rowK (k0) = b0 at *
    cases b0 <;> cases wh
    all_goals
      go_enter Tryz.func33, Tryz.ntmps33
      go_wp2_with fail
      refine wp_region_sub2 (by kernel_rfl) (by kernel_rfl) ?_
      intro cx
      repeat (first | go_big_quiet_skip | (go_big_quiet_want; go_big_quiet_op; first | go_big_quiet_on | (refine ⟨_, fun _ => rfl, ?_⟩; go_big_quiet_on)))
      refine wpQuiet_nil ?_
      rintro _ ⟨y, rfl⟩
      have Y : Hid (Below w.heap.size w y.w) := y.h
      have y0 := c0 y
      clear cx c0 d0
      generalize y.w = W at *
      go_wp2_with (first | (go_at_call 80; refine (F.out _ Y.out).mono ?_; rintro e w1 ⟨rfl, h⟩; have h' := h.symm; subst h') | (go_at_call 77; with_reducible refine (RW.out _).mono ?_; rintro e w1 ⟨rfl, h⟩; have h' := h.symm; subst h'))
      go_ret
      exact ⟨rfl, Y.out⟩
  · rw [if_neg nn]
    have m2 : ((n : Int) == 2) = false := by simp; omega
    clear nn
    generalize allI (n - 1) (fun i => κ (1 + i)) = wh at *
    generalize κ 0 = k0 at *
    clear hk hr
    go_enter Tryz.func33, Tryz.ntmps33
    go_wp2_with fail
    refine wp_region_sub2 (by kernel_rfl) (by kernel_rfl) ?_
    intro cx
    repeat (first | go_big_quiet_skip | (go_big_quiet_want; go_big_quiet_op; first | go_big_quiet_on | (refine ⟨_, fun _ => rfl, ?_⟩; go_big_quiet_on)))
    refine wpQuiet_nil ?_
    rintro _ ⟨y, rfl⟩
    have Y : Hid (Below w.heap.size w y.w) := y.h
    have y0 := c0 y
    clear cx c0 d0
    generalize y.w = W at *
    go_wp2_with (first | (go_at_call 80; refine (F.out _ Y.out).mono ?_; rintro e w1 ⟨rfl, h⟩; have h' := h.symm; subst h'))
    go_ret
    exact ⟨rfl, Y.out⟩
set_option maxRecDepth 20000 in
set_option maxHeartbeats 1000000 in
theorem ov_24 (a : Addr) (n cap : Nat) (κ : Nat → Int) (w : World) (hk : KsAt w a n κ) (h1 : 1 ≤ n) (h2 : n ≤ 16) (hcap : n ≤ cap) (hr : ∀ i, 0 ≤ κ i ∧ κ i < 256) :
    Calls Tryz.prog 33 #[.int .i64 24, .slice (some a) n cap] w fun e w' => e = .returned (.int .u8 (if n = 2 then gvK (κ 0) (rowK (κ 0) && allI (n - 1) (fun i => κ (1 + i))) else 0)) ∧ Below w.heap.size w w' := by
  have g3 : (0 : Int) < n := by omega
  have d0 : w.cell? a = some (.int .u8 (κ 0)) := by have := hk 0 (by omega); rwa [Addr.add_zero'] at this
  have c0 : ∀ x : Sub w, x.w.cell? a = some (.int .u8 (κ 0)) := fun x => by rw [x.h.cell (block_lt_of_cell d0)]; exact d0
  have F : Hid (∀ W, Below w.heap.size w W → Calls Tryz.prog 80 #[.slice (some a) n cap] W fun e w' => e = .returned (.bool (allI (n - 1) (fun i => κ (1 + i)))) ∧ w' = W) := fun W hb => func2_of a n cap κ W (hk.below hb) (by omega) h1 hcap hr
  have RW : Hid (∀ w, Calls Tryz.prog 77 #[.int .u8 (κ 0)] w fun e w' => e = .returned (.bool (rowK (κ 0))) ∧ w' = w) := fun w => RowR_iz _ w (hr 0)
  by_cases nn : n = 2
  · rw [if_pos nn]
    subst nn
    clear hk hr
    generalize allI (2 - 1) (fun i => κ (1 + i)) = wh at *
    generalize κ 0 = k0 at *
    generalize rowK (k0) = b0 at *
    cases b0 <;> cases wh
    all_goals
      go_enter Tryz.func33, Tryz.ntmps33
      go_wp2_with fail
      refine wp_region_sub2 (by kernel_rfl) (by kernel_rfl) ?_
      intro cx
      repeat (first | go_big_quiet_skip | (go_big_quiet_want; go_big_quiet_op; first | go_big_quiet_on | (refine ⟨_, fun _ => rfl, ?_⟩; go_big_quiet_on)))
      refine wpQuiet_nil ?_
      rintro _ ⟨y, rfl⟩
      have Y : Hid (Below w.heap.size w y.w) := y.h
      have y0 := c0 y
      clear cx c0 d0
      generalize y.w = W at *
      go_wp2_with (first | (go_at_call 80; refine (F.out _ Y.out).mono ?_; rintro e w1 ⟨rfl, h⟩; have h' := h.symm; subst h') | (go_at_call 77; with_reducible refine (RW.out _).mono ?_; rintro e w1 ⟨rfl, h⟩; have h' := h.symm; subst h'))
      go_ret
      exact ⟨rfl, Y.out⟩
  · rw [if_neg nn]
    have m2 : ((n : Int) == 2) = false := by simp; omega
    clear nn
    generalize allI (n - 1) (fun i => κ (1 + i)) = wh at *
    generalize κ 0 = k0 at *
    clear hk hr
    go_enter Tryz.func33, Tryz.ntmps33
    go_wp2_with fail
    refine wp_region_sub2 (by kernel_rfl) (by kernel_rfl) ?_
    intro cx
    repeat (first | go_big_quiet_skip | (go_big_quiet_want; go_big_quiet_op; first | go_big_quiet_on | (refine ⟨_, fun _ => rfl, ?_⟩; go_big_quiet_on)))
    refine wpQuiet_nil ?_
    rintro _ ⟨y, rfl⟩
    have Y : Hid (Below w.heap.size w y.w) := y.h
    have y0 := c0 y
    clear cx c0 d0
    generalize y.w = W at *
    go_wp2_with (first | (go_at_call 80; refine (F.out _ Y.out).mono ?_; rintro e w1 ⟨rfl, h⟩; have h' := h.symm; subst h'))
    go_ret
    exact ⟨rfl, Y.out⟩
set_option maxRecDepth 20000 in
set_option maxHeartbeats 1000000 in
theorem ov_25 (a : Addr) (n cap : Nat) (κ : Nat → Int) (w : World) (hk : KsAt w a n κ) (h1 : 1 ≤ n) (h2 : n ≤ 16) (hcap : n ≤ cap) (hr : ∀ i, 0 ≤ κ i ∧ κ i < 256) :
    Calls Tryz.prog 33 #[.int .i64 25, .slice (some a) n cap] w fun e w' => e = .returned (.int .u8 (if n = 2 then gvK (κ 0) (rowK (κ 0) && allI (n - 1) (fun i => κ (1 + i))) else 0)) ∧ Below w.heap.size w w' := by
  have g3 : (0 : Int) < n := by omega
  have d0 : w.cell? a = some (.int .u8 (κ 0)) := by have := hk 0 (by omega); rwa [Addr.add_zero'] at this
  have c0 : ∀ x : Sub w, x.w.cell? a = some (.int .u8 (κ 0)) := fun x => by rw [x.h.cell (block_lt_of_cell d0)]; exact d0
  have F : Hid (∀ W, Below w.heap.size w W → Calls Tryz.prog 80 #[.slice (some a) n cap] W fun e w' => e = .returned (.bool (allI (n - 1) (fun i => κ (1 + i)))) ∧ w' = W) := fun W hb => func2_of a n cap κ W (hk.below hb) (by omega) h1 hcap hr
  have RW : Hid (∀ w, Calls Tryz.prog 77 #[.int .u8 (κ 0)] w fun e w' => e = .returned (.bool (rowK (κ 0))) ∧ w' = w) := fun w => RowR_iz _ w (hr 0)
  by_cases nn : n = 2
  · rw [if_pos nn]
    subst nn
    clear hk hr
    generalize allI (2 - 1) (fun i => κ (1 + i)) = wh at *
    generalize κ 0 = k0 at *
    generalize rowK (k0) = b0 at *
    cases b0 <;> cases wh
    all_goals
      go_enter Tryz.func33, Tryz.ntmps33
      go_wp2_with fail
      refine wp_region_sub2 (by kernel_rfl) (by kernel_rfl) ?_
      intro cx
      repeat (first | go_big_quiet_skip | (go_big_quiet_want; go_big_quiet_op; first | go_big_quiet_on | (refine ⟨_, fun _ => rfl, ?_⟩; go_big_quiet_on)))
      refine wpQuiet_nil ?_
      rintro _ ⟨y, rfl⟩
      have Y : Hid (Below w.heap.size w y.w) := y.h
      have y0 := c0 y
      clear cx c0 d0
      generalize y.w = W at *
      go_wp2_with (first | (go_at_call 80; refine (F.out _ Y.out).mono ?_; rintro e w1 ⟨rfl, h⟩; have h' := h.symm; subst h') | (go_at_call 77; with_reducible refine (RW.out _).mono ?_; rintro e w1 ⟨rfl, h⟩; have h' := h.symm; subst h'))
      go_ret
      exact ⟨rfl, Y.out⟩
  · rw [if_neg nn]
    have m2 : ((n : Int) == 2) = false := by simp; omega
    clear nn
    generalize allI (n - 1) (fun i => κ (1 + i)) = wh at *
    generalize κ 0 = k0 at *
    clear hk hr
    go_enter Tryz.func33, Tryz.ntmps33
    go_wp2_with fail
    refine wp_region_sub2 (by kernel_rfl) (by kernel_rfl) ?_
    intro cx
    repeat (first | go_big_quiet_skip | (go_big_quiet_want; go_big_quiet_op; first | go_big_quiet_on | (refine ⟨_, fun _ => rfl, ?_⟩; go_big_quiet_on)))
    refine wpQuiet_nil ?_
    rintro _ ⟨y, rfl⟩
    have Y : Hid (Below w.heap.size w y.w) := y.h
    have y0 := c0 y
    clear cx c0 d0
    generalize y.w = W at *
    go_wp2_with (first | (go_at_call 80; refine (F.out _ Y.out).mono ?_; rintro e w1 ⟨rfl, h⟩; have h' := h.symm; subst h'))
    go_ret
    exact ⟨rfl, Y.out⟩
set_option maxRecDepth 20000 in
set_option maxHeartbeats 1000000 in
theorem ov_26 (a : Addr) (n cap : Nat) (κ : Nat → Int) (w : World) (hk : KsAt w a n κ) (h1 : 1 ≤ n) (h2 : n ≤ 16) (hcap : n ≤ cap) (hr : ∀ i, 0 ≤ κ i ∧ κ i < 256) :
    Calls Tryz.prog 33 #[.int .i64 26, .slice (some a) n cap] w fun e w' => e = .returned (.int .u8 (if n = 2 then gvK (κ 0) (rowK (κ 0) && allI (n - 1) (fun i => κ (1 + i))) else 0)) ∧ Below w.heap.size w w' := by
  have g3 : (0 : Int) < n := by omega
  have d0 : w.cell? a = some (.int .u8 (κ 0)) := by have := hk 0 (by omega); rwa [Addr.add_zero'] at this
  have c0 : ∀ x : Sub w, x.w.cell? a = some (.int .u8 (κ 0)) := fun x => by rw [x.h.cell (block_lt_of_cell d0)]; exact d0
  have F : Hid (∀ W, Below w.heap.size w W → Calls Tryz.prog 80 #[.slice (some a) n cap] W fun e w' => e = .returned (.bool (allI (n - 1) (fun i => κ (1 + i)))) ∧ w' = W) := fun W hb => func2_of a n cap κ W (hk.below hb) (by omega) h1 hcap hr
  have RW : Hid (∀ w, Calls Tryz.prog 77 #[.int .u8 (κ 0)] w fun e w' => e = .returned (.bool (rowK (κ 0))) ∧ w' = w) := fun w => RowR_iz _ w (hr 0)
  by_cases nn : n = 2
  · rw [if_pos nn]
    subst nn
    clear hk hr
    generalize allI (2 - 1) (fun i => κ (1 + i)) = wh at *
    generalize κ 0 = k0 at *
    generalize rowK (k0) = b0 at *
    cases b0 <;> cases wh
    all_goals
      go_enter Tryz.func33, Tryz.ntmps33
      go_wp2_with fail
      refine wp_region_sub2 (by kernel_rfl) (by kernel_rfl) ?_
      intro cx
      repeat (first | go_big_quiet_skip | (go_big_quiet_want; go_big_quiet_op; first | go_big_quiet_on | (refine ⟨_, fun _ => rfl, ?_⟩; go_big_quiet_on)))
      refine wpQuiet_nil ?_
      rintro _ ⟨y, rfl⟩
      have Y : Hid (Below w.heap.size w y.w) := y.h
      have y0 := c0 y
      clear cx c0 d0
      generalize y.w = W at *
      go_wp2_with (first | (go_at_call 80; refine (F.out _ Y.out).mono ?_; rintro e w1 ⟨rfl, h⟩; have h' := h.symm; subst h') | (go_at_call 77; with_reducible refine (RW.out _).mono ?_; rintro e w1 ⟨rfl, h⟩; have h' := h.symm; subst h'))
      go_ret
      exact ⟨rfl, Y.out⟩
  · rw [if_neg nn]
    have m2 : ((n : Int) == 2) = false := by simp; omega
    clear nn
    generalize allI (n - 1) (fun i => κ (1 + i)) = wh at *
    generalize κ 0 = k0 at *
    clear hk hr
    go_enter Tryz.func33, Tryz.ntmps33
    go_wp2_with fail
    refine wp_region_sub2 (by kernel_rfl) (by kernel_rfl) ?_
    intro cx
    repeat (first | go_big_quiet_skip | (go_big_quiet_want; go_big_quiet_op; first | go_big_quiet_on | (refine ⟨_, fun _ => rfl, ?_⟩; go_big_quiet_on)))
    refine wpQuiet_nil ?_
    rintro _ ⟨y, rfl⟩
    have Y : Hid (Below w.heap.size w y.w) := y.h
    have y0 := c0 y
    clear cx c0 d0
    generalize y.w = W at *
    go_wp2_with (first | (go_at_call 80; refine (F.out _ Y.out).mono ?_; rintro e w1 ⟨rfl, h⟩; have h' := h.symm; subst h'))
    go_ret
    exact ⟨rfl, Y.out⟩
end Go.Proofs.YtpaibmganlaaeaaGreatDoor
