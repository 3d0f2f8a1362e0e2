/- The document's gives, for single functions; no statement of the seat is proved here. -/
import Derived.Test.YtpaibmganlaaeaaGreatDoorFz28
namespace Go.Proofs.YtpaibmganlaaeaaGreatDoor
set_option linter.unusedVariables false
open Go.RowKit
set_option maxRecDepth 20000 in
set_option maxHeartbeats 1000000 in
theorem ov_27 (a : Addr) (n cap : Nat) (κ : Nat → Int) (w : World) (hk : KsAt w a n κ) (h1 : 1 ≤ n) (h2 : n ≤ 16) (hcap : n ≤ cap) (hr : ∀ i, 0 ≤ κ i ∧ κ i < 256) :
    Calls Tryz.prog 33 #[.int .i64 27, .slice (some a) n cap] w fun e w' => e = .returned (.int .u8 (if n = 1 then gvK (3) (κ 0 == 19) else 0)) ∧ Below w.heap.size w w' := by
  have g3 : (0 : Int) < n := by omega
  have d0 : w.cell? a = some (.int .u8 (κ 0)) := by have := hk 0 (by omega); rwa [Addr.add_zero'] at this
  have c0 : ∀ x : Sub w, x.w.cell? a = some (.int .u8 (κ 0)) := fun x => by rw [x.h.cell (block_lt_of_cell d0)]; exact d0
  have F : Hid (∀ W, Below w.heap.size w W → Calls Tryz.prog 80 #[.slice (some a) n cap] W fun e w' => e = .returned (.bool (allI (n - 1) (fun i => κ (1 + i)))) ∧ w' = W) := fun W hb => func2_of a n cap κ W (hk.below hb) (by omega) h1 hcap hr
  by_cases nn : n = 1
  · rw [if_pos nn]
    subst nn
    clear hk hr
    generalize allI (1 - 1) (fun i => κ (1 + i)) = wh at *
    generalize κ 0 = k0 at *
    obtain ⟨b0, eb0⟩ : ∃ b, (k0 == 19) = b := ⟨_, rfl⟩
    rw [eb0]
    cases b0
    all_goals
      go_enter Tryz.func33, Tryz.ntmps33
      go_wp2_with fail
      refine wp_region_sub2 (by kernel_rfl) (by kernel_rfl) ?_
      intro cx
      repeat (first | go_big_quiet_skip | (go_big_quiet_want; go_big_quiet_op; first | go_big_quiet_on | (refine ⟨_, fun _ => rfl, ?_⟩; go_big_quiet_on)))
      refine wpQuiet_nil ?_
      rintro _ ⟨y, rfl⟩
      have Y : Hid (Below w.heap.size w y.w) := y.h
      have y0 := c0 y
      clear cx c0 d0
      generalize y.w = W at *
      go_wp2_with (first | (go_at_call 80; refine (F.out _ Y.out).mono ?_; rintro e w1 ⟨rfl, h⟩; have h' := h.symm; subst h'))
      go_ret
      exact ⟨rfl, Y.out⟩
  · rw [if_neg nn]
    have m2 : ((n : Int) == 1) = false := by simp; omega
    clear nn
    generalize allI (n - 1) (fun i => κ (1 + i)) = wh at *
    generalize κ 0 = k0 at *
    clear hk hr
    go_enter Tryz.func33, Tryz.ntmps33
    go_wp2_with fail
    refine wp_region_sub2 (by kernel_rfl) (by kernel_rfl) ?_
    intro cx
    repeat (first | go_big_quiet_skip | (go_big_quiet_want; go_big_quiet_op; first | go_big_quiet_on | (refine ⟨_, fun _ => rfl, ?_⟩; go_big_quiet_on)))
    refine wpQuiet_nil ?_
    rintro _ ⟨y, rfl⟩
    have Y : Hid (Below w.heap.size w y.w) := y.h
    have y0 := c0 y
    clear cx c0 d0
    generalize y.w = W at *
    go_wp2_with (first | (go_at_call 80; refine (F.out _ Y.out).mono ?_; rintro e w1 ⟨rfl, h⟩; have h' := h.symm; subst h'))
    go_ret
    exact ⟨rfl, Y.out⟩
set_option maxRecDepth 20000 in
set_option maxHeartbeats 1000000 in
theorem ov_28 (a : Addr) (n cap : Nat) (κ : Nat → Int) (w : World) (hk : KsAt w a n κ) (h1 : 1 ≤ n) (h2 : n ≤ 16) (hcap : n ≤ cap) (hr : ∀ i, 0 ≤ κ i ∧ κ i < 256) :
    Calls Tryz.prog 33 #[.int .i64 28, .slice (some a) n cap] w fun e w' => e = .returned (.int .u8 (if n = 2 then gvK (κ 0) (κ 0 == 19 && allI (n - 1) (fun i => κ (1 + i))) else 0)) ∧ Below w.heap.size w w' := by
  have g3 : (0 : Int) < n := by omega
  have d0 : w.cell? a = some (.int .u8 (κ 0)) := by have := hk 0 (by omega); rwa [Addr.add_zero'] at this
  have c0 : ∀ x : Sub w, x.w.cell? a = some (.int .u8 (κ 0)) := fun x => by rw [x.h.cell (block_lt_of_cell d0)]; exact d0
  have F : Hid (∀ W, Below w.heap.size w W → Calls Tryz.prog 80 #[.slice (some a) n cap] W fun e w' => e = .returned (.bool (allI (n - 1) (fun i => κ (1 + i)))) ∧ w' = W) := fun W hb => func2_of a n cap κ W (hk.below hb) (by omega) h1 hcap hr
  by_cases nn : n = 2
  · rw [if_pos nn]
    subst nn
    clear hk hr
    generalize allI (2 - 1) (fun i => κ (1 + i)) = wh at *
    generalize κ 0 = k0 at *
    obtain ⟨b0, eb0⟩ : ∃ b, (k0 == 19) = b := ⟨_, rfl⟩
    rw [eb0]
    cases b0 <;> cases wh
    all_goals
      go_enter Tryz.func33, Tryz.ntmps33
      go_wp2_with fail
      refine wp_region_sub2 (by kernel_rfl) (by kernel_rfl) ?_
      intro cx
      repeat (first | go_big_quiet_skip | (go_big_quiet_want; go_big_quiet_op; first | go_big_quiet_on | (refine ⟨_, fun _ => rfl, ?_⟩; go_big_quiet_on)))
      refine wpQuiet_nil ?_
      rintro _ ⟨y, rfl⟩
      have Y : Hid (Below w.heap.size w y.w) := y.h
      have y0 := c0 y
      clear cx c0 d0
      generalize y.w = W at *
      go_wp2_with (first | (go_at_call 80; refine (F.out _ Y.out).mono ?_; rintro e w1 ⟨rfl, h⟩; have h' := h.symm; subst h'))
      go_ret
      exact ⟨rfl, Y.out⟩
  · rw [if_neg nn]
    have m2 : ((n : Int) == 2) = false := by simp; omega
    clear nn
    generalize allI (n - 1) (fun i => κ (1 + i)) = wh at *
    generalize κ 0 = k0 at *
    clear hk hr
    go_enter Tryz.func33, Tryz.ntmps33
    go_wp2_with fail
    refine wp_region_sub2 (by kernel_rfl) (by kernel_rfl) ?_
    intro cx
    repeat (first | go_big_quiet_skip | (go_big_quiet_want; go_big_quiet_op; first | go_big_quiet_on | (refine ⟨_, fun _ => rfl, ?_⟩; go_big_quiet_on)))
    refine wpQuiet_nil ?_
    rintro _ ⟨y, rfl⟩
    have Y : Hid (Below w.heap.size w y.w) := y.h
    have y0 := c0 y
    clear cx c0 d0
    generalize y.w = W at *
    go_wp2_with (first | (go_at_call 80; refine (F.out _ Y.out).mono ?_; rintro e w1 ⟨rfl, h⟩; have h' := h.symm; subst h'))
    go_ret
    exact ⟨rfl, Y.out⟩
set_option maxRecDepth 20000 in
set_option maxHeartbeats 1000000 in
theorem ov_29 (a : Addr) (n cap : Nat) (κ : Nat → Int) (w : World) (hk : KsAt w a n κ) (h1 : 1 ≤ n) (h2 : n ≤ 16) (hcap : n ≤ cap) (hr : ∀ i, 0 ≤ κ i ∧ κ i < 256) :
    Calls Tryz.prog 33 #[.int .i64 29, .slice (some a) n cap] w fun e w' => e = .returned (.int .u8 (if n = 2 then gvK (κ 0) (κ 0 == 19 && allI (n - 1) (fun i => κ (1 + i))) else 0)) ∧ Below w.heap.size w w' := by
  have g3 : (0 : Int) < n := by omega
  have d0 : w.cell? a = some (.int .u8 (κ 0)) := by have := hk 0 (by omega); rwa [Addr.add_zero'] at this
  have c0 : ∀ x : Sub w, x.w.cell? a = some (.int .u8 (κ 0)) := fun x => by rw [x.h.cell (block_lt_of_cell d0)]; exact d0
  have F : Hid (∀ W, Below w.heap.size w W → Calls Tryz.prog 80 #[.slice (some a) n cap] W fun e w' => e = .returned (.bool (allI (n - 1) (fun i => κ (1 + i)))) ∧ w' = W) := fun W hb => func2_of a n cap κ W (hk.below hb) (by omega) h1 hcap hr
  by_cases nn : n = 2
  · rw [if_pos nn]
    subst nn
    clear hk hr
    generalize allI (2 - 1) (fun i => κ (1 + i)) = wh at *
    generalize κ 0 = k0 at *
    obtain ⟨b0, eb0⟩ : ∃ b, (k0 == 19) = b := ⟨_, rfl⟩
    rw [eb0]
    cases b0 <;> cases wh
    all_goals
      go_enter Tryz.func33, Tryz.ntmps33
      go_wp2_with fail
      refine wp_region_sub2 (by kernel_rfl) (by kernel_rfl) ?_
      intro cx
      repeat (first | go_big_quiet_skip | (go_big_quiet_want; go_big_quiet_op; first | go_big_quiet_on | (refine ⟨_, fun _ => rfl, ?_⟩; go_big_quiet_on)))
      refine wpQuiet_nil ?_
      rintro _ ⟨y, rfl⟩
      have Y : Hid (Below w.heap.size w y.w) := y.h
      have y0 := c0 y
      clear cx c0 d0
      generalize y.w = W at *
      go_wp2_with (first | (go_at_call 80; refine (F.out _ Y.out).mono ?_; rintro e w1 ⟨rfl, h⟩; have h' := h.symm; subst h'))
      go_ret
      exact ⟨rfl, Y.out⟩
  · rw [if_neg nn]
    have m2 : ((n : Int) == 2) = false := by simp; omega
    clear nn
    generalize allI (n - 1) (fun i => κ (1 + i)) = wh at *
    generalize κ 0 = k0 at *
    clear hk hr
    go_enter Tryz.func33, Tryz.ntmps33
    go_wp2_with fail
    refine wp_region_sub2 (by kernel_rfl) (by kernel_rfl) ?_
    intro cx
    repeat (first | go_big_quiet_skip | (go_big_quiet_want; go_big_quiet_op; first | go_big_quiet_on | (refine ⟨_, fun _ => rfl, ?_⟩; go_big_quiet_on)))
    refine wpQuiet_nil ?_
    rintro _ ⟨y, rfl⟩
    have Y : Hid (Below w.heap.size w y.w) := y.h
    have y0 := c0 y
    clear cx c0 d0
    generalize y.w = W at *
    go_wp2_with (first | (go_at_call 80; refine (F.out _ Y.out).mono ?_; rintro e w1 ⟨rfl, h⟩; have h' := h.symm; subst h'))
    go_ret
    exact ⟨rfl, Y.out⟩
set_option maxRecDepth 20000 in
set_option maxHeartbeats 1000000 in
theorem ov_30 (a : Addr) (n cap : Nat) (κ : Nat → Int) (w : World) (hk : KsAt w a n κ) (h1 : 1 ≤ n) (h2 : n ≤ 16) (hcap : n ≤ cap) (hr : ∀ i, 0 ≤ κ i ∧ κ i < 256) :
    Calls Tryz.prog 33 #[.int .i64 30, .slice (some a) n cap] w fun e w' => e = .returned (.int .u8 (if n = 3 then gvK (κ 0) (κ 0 == 19 && allI (n - 1) (fun i => κ (1 + i))) else 0)) ∧ Below w.heap.size w w' := by
  have g3 : (0 : Int) < n := by omega
  have d0 : w.cell? a = some (.int .u8 (κ 0)) := by have := hk 0 (by omega); rwa [Addr.add_zero'] at this
  have c0 : ∀ x : Sub w, x.w.cell? a = some (.int .u8 (κ 0)) := fun x => by rw [x.h.cell (block_lt_of_cell d0)]; exact d0
  have F : Hid (∀ W, Below w.heap.size w W → Calls Tryz.prog 80 #[.slice (some a) n cap] W fun e w' => e = .returned (.bool (allI (n - 1) (fun i => κ (1 + i)))) ∧ w' = W) := fun W hb => func2_of a n cap κ W (hk.below hb) (by omega) h1 hcap hr
  by_cases nn : n = 3
  · rw [if_pos nn]
    subst nn
    clear hk hr
    generalize allI (3 - 1) (fun i => κ (1 + i)) = wh at *
    generalize κ 0 = k0 at *
    obtain ⟨b0, eb0⟩ : ∃ b, (k0 == 19) = b := ⟨_, rfl⟩
    rw [eb0]
    cases b0 <;> cases wh
    all_goals
      go_enter Tryz.func33, Tryz.ntmps33
      go_wp2_with fail
      refine wp_region_sub2 (by kernel_rfl) (by kernel_rfl) ?_
      intro cx
      repeat (first | go_big_quiet_skip | (go_big_quiet_want; go_big_quiet_op; first | go_big_quiet_on | (refine ⟨_, fun _ => rfl, ?_⟩; go_big_quiet_on)))
      refine wpQuiet_nil ?_
      rintro _ ⟨y, rfl⟩
      have Y : Hid (Below w.heap.size w y.w) := y.h
      have y0 := c0 y
      clear cx c0 d0
      generalize y.w = W at *
      go_wp2_with (first | (go_at_call 80; refine (F.out _ Y.out).mono ?_; rintro e w1 ⟨rfl, h⟩; have h' := h.symm; subst h'))
      go_ret
      exact ⟨rfl, Y.out⟩
  · rw [if_neg nn]
    have m2 : ((n : Int) == 3) = false := by simp; omega
    clear nn
    generalize allI (n - 1) (fun i => κ (1 + i)) = wh at *
    generalize κ 0 = k0 at *
    clear hk hr
    go_enter Tryz.func33, Tryz.ntmps33
    go_wp2_with fail
    refine wp_region_sub2 (by kernel_rfl) (by kernel_rfl) ?_
    intro cx
    repeat (first | go_big_quiet_skip | (go_big_quiet_want; go_big_quiet_op; first | go_big_quiet_on | (refine ⟨_, fun _ => rfl, ?_⟩; go_big_quiet_on)))
    refine wpQuiet_nil ?_
    rintro _ ⟨y, rfl⟩
    have Y : Hid (Below w.heap.size w y.w) := y.h
    have y0 := c0 y
    clear cx c0 d0
    generalize y.w = W at *
    go_wp2_with (first | (go_at_call 80; refine (F.out _ Y.out).mono ?_; rintro e w1 ⟨rfl, h⟩; have h' := h.symm; subst h'))
    go_ret
    exact ⟨rfl, Y.out⟩
set_option maxRecDepth 20000 in
set_option maxHeartbeats 1000000 in
theorem ov_31 (a : Addr) (n cap : Nat) (κ : Nat → Int) (w : World) (hk : KsAt w a n κ) (h1 : 1 ≤ n) (h2 : n ≤ 16) (hcap : n ≤ cap) (hr : ∀ i, 0 ≤ κ i ∧ κ i < 256) :
    Calls Tryz.prog 33 #[.int .i64 31, .slice (some a) n cap] w fun e w' => e = .returned (.int .u8 (if 2 ≤ n then gvK (κ 0) (κ 0 == 19 && allS n κ) else 0)) ∧ Below w.heap.size w w' := by
  have g3 : (0 : Int) < n := by omega
  have d0 : w.cell? a = some (.int .u8 (κ 0)) := by have := hk 0 (by omega); rwa [Addr.add_zero'] at this
  have c0 : ∀ x : Sub w, x.w.cell? a = some (.int .u8 (κ 0)) := fun x => by rw [x.h.cell (block_lt_of_cell d0)]; exact d0
  have F : Hid (∀ W, Below w.heap.size w W → Calls Tryz.prog 80 #[.slice (some a) n cap] W fun e w' => e = .returned (.bool (allI (n - 1) (fun i => κ (1 + i)))) ∧ w' = W) := fun W hb => func2_of a n cap κ W (hk.below hb) (by omega) h1 hcap hr
  have A : Hid (∀ W, Below w.heap.size w W → Calls Tryz.prog 29 #[.slice (some a) n cap] W fun e w' => e = .returned (.bool (allS n κ)) ∧ w' = W) := fun W hb => alikeR_of a n cap κ W (hk.below hb) (by omega) (by omega)
  by_cases nn : 2 ≤ n
  · rw [if_pos nn]
    have m2 : (2 : Int) ≤ n := by omega
    clear nn
    clear hk hr
    generalize allI (n - 1) (fun i => κ (1 + i)) = wh at *
    generalize allS n κ = ps at *
    generalize κ 0 = k0 at *
    obtain ⟨b0, eb0⟩ : ∃ b, (k0 == 19) = b := ⟨_, rfl⟩
    rw [eb0]
    cases b0 <;> cases ps
    all_goals
      go_enter Tryz.func33, Tryz.ntmps33
      go_wp2_with fail
      refine wp_region_sub2 (by kernel_rfl) (by kernel_rfl) ?_
      intro cx
      repeat (first | go_big_quiet_skip | (go_big_quiet_want; go_big_quiet_op; first | go_big_quiet_on | (refine ⟨_, fun _ => rfl, ?_⟩; go_big_quiet_on)))
      refine wpQuiet_nil ?_
      rintro _ ⟨y, rfl⟩
      have Y : Hid (Below w.heap.size w y.w) := y.h
      have y0 := c0 y
      clear cx c0 d0
      generalize y.w = W at *
      go_wp2_with (first | (go_at_call 80; refine (F.out _ Y.out).mono ?_; rintro e w1 ⟨rfl, h⟩; have h' := h.symm; subst h') | (go_at_call 29; refine (A.out _ Y.out).mono ?_; rintro e w1 ⟨rfl, h⟩; have h' := h.symm; subst h'))
      go_ret
      exact ⟨rfl, Y.out⟩
  · rw [if_neg nn]
    obtain rfl : n = 1 := by omega
    clear nn
    generalize allI (1 - 1) (fun i => κ (1 + i)) = wh at *
    generalize κ 0 = k0 at *
    clear hk hr
    go_enter Tryz.func33, Tryz.ntmps33
    go_wp2_with fail
    refine wp_region_sub2 (by kernel_rfl) (by kernel_rfl) ?_
    intro cx
    repeat (first | go_big_quiet_skip | (go_big_quiet_want; go_big_quiet_op; first | go_big_quiet_on | (refine ⟨_, fun _ => rfl, ?_⟩; go_big_quiet_on)))
    refine wpQuiet_nil ?_
    rintro _ ⟨y, rfl⟩
    have Y : Hid (Below w.heap.size w y.w) := y.h
    have y0 := c0 y
    clear cx c0 d0
    generalize y.w = W at *
    go_wp2_with (first | (go_at_call 80; refine (F.out _ Y.out).mono ?_; rintro e w1 ⟨rfl, h⟩; have h' := h.symm; subst h'))
    go_ret
    exact ⟨rfl, Y.out⟩
set_option maxRecDepth 20000 in
set_option maxHeartbeats 1000000 in
theorem ov_33 (a : Addr) (n cap : Nat) (κ : Nat → Int) (w : World) (hk : KsAt w a n κ) (h1 : 1 ≤ n) (h2 : n ≤ 16) (hcap : n ≤ cap) (hr : ∀ i, 0 ≤ κ i ∧ κ i < 256) :
    Calls Tryz.prog 33 #[.int .i64 33, .slice (some a) n cap] w fun e w' => e = .returned (.int .u8 (if n = 3 then gvK (κ 0) (κ 0 == 19 && allI (n - 1) (fun i => κ (1 + i))) else 0)) ∧ Below w.heap.size w w' := by
  have g3 : (0 : Int) < n := by omega
  have d0 : w.cell? a = some (.int .u8 (κ 0)) := by have := hk 0 (by omega); rwa [Addr.add_zero'] at this
  have c0 : ∀ x : Sub w, x.w.cell? a = some (.int .u8 (κ 0)) := fun x => by rw [x.h.cell (block_lt_of_cell d0)]; exact d0
  have F : Hid (∀ W, Below w.heap.size w W → Calls Tryz.prog 80 #[.slice (some a) n cap] W fun e w' => e = .returned (.bool (allI (n - 1) (fun i => κ (1 + i)))) ∧ w' = W) := fun W hb => func2_of a n cap κ W (hk.below hb) (by omega) h1 hcap hr
  by_cases nn : n = 3
  · rw [if_pos nn]
    subst nn
    clear hk hr
    generalize allI (3 - 1) (fun i => κ (1 + i)) = wh at *
    generalize κ 0 = k0 at *
    obtain ⟨b0, eb0⟩ : ∃ b, (k0 == 19) = b := ⟨_, rfl⟩
    rw [eb0]
    cases b0 <;> cases wh
    all_goals
      go_enter Tryz.func33, Tryz.ntmps33
      go_wp2_with fail
      refine wp_region_sub2 (by kernel_rfl) (by kernel_rfl) ?_
      intro cx
      repeat (first | go_big_quiet_skip | (go_big_quiet_want; go_big_quiet_op; first | go_big_quiet_on | (refine ⟨_, fun _ => rfl, ?_⟩; go_big_quiet_on)))
      refine wpQuiet_nil ?_
      rintro _ ⟨y, rfl⟩
      have Y : Hid (Below w.heap.size w y.w) := y.h
      have y0 := c0 y
      clear cx c0 d0
      generalize y.w = W at *
      go_wp2_with (first | (go_at_call 80; refine (F.out _ Y.out).mono ?_; rintro e w1 ⟨rfl, h⟩; have h' := h.symm; subst h'))
      go_ret
      exact ⟨rfl, Y.out⟩
  · rw [if_neg nn]
    have m2 : ((n : Int) == 3) = false := by simp; omega
    clear nn
    generalize allI (n - 1) (fun i => κ (1 + i)) = wh at *
    generalize κ 0 = k0 at *
    clear hk hr
    go_enter Tryz.func33, Tryz.ntmps33
    go_wp2_with fail
    refine wp_region_sub2 (by kernel_rfl) (by kernel_rfl) ?_
    intro cx
    repeat (first | go_big_quiet_skip | (go_big_quiet_want; go_big_quiet_op; first | go_big_quiet_on | (refine ⟨_, fun _ => rfl, ?_⟩; go_big_quiet_on)))
    refine wpQuiet_nil ?_
    rintro _ ⟨y, rfl⟩
    have Y : Hid (Below w.heap.size w y.w) := y.h
    have y0 := c0 y
    clear cx c0 d0
    generalize y.w = W at *
    go_wp2_with (first | (go_at_call 80; refine (F.out _ Y.out).mono ?_; rintro e w1 ⟨rfl, h⟩; have h' := h.symm; subst h'))
    go_ret
    exact ⟨rfl, Y.out⟩
set_option maxRecDepth 20000 in
set_option maxHeartbeats 1000000 in
theorem ov_36 (a : Addr) (n cap : Nat) (κ : Nat → Int) (w : World) (hk : KsAt w a n κ) (h1 : 1 ≤ n) (h2 : n ≤ 16) (hcap : n ≤ cap) (hr : ∀ i, 0 ≤ κ i ∧ κ i < 256) :
    Calls Tryz.prog 33 #[.int .i64 36, .slice (some a) n cap] w fun e w' => e = .returned (.int .u8 (if n = 1 then gvK (5) (κ 0 == 18) else 0)) ∧ Below w.heap.size w w' := by
  have g3 : (0 : Int) < n := by omega
  have d0 : w.cell? a = some (.int .u8 (κ 0)) := by have := hk 0 (by omega); rwa [Addr.add_zero'] at this
  have c0 : ∀ x : Sub w, x.w.cell? a = some (.int .u8 (κ 0)) := fun x => by rw [x.h.cell (block_lt_of_cell d0)]; exact d0
  have F : Hid (∀ W, Below w.heap.size w W → Calls Tryz.prog 80 #[.slice (some a) n cap] W fun e w' => e = .returned (.bool (allI (n - 1) (fun i => κ (1 + i)))) ∧ w' = W) := fun W hb => func2_of a n cap κ W (hk.below hb) (by omega) h1 hcap hr
  by_cases nn : n = 1
  · rw [if_pos nn]
    subst nn
    clear hk hr
    generalize allI (1 - 1) (fun i => κ (1 + i)) = wh at *
    generalize κ 0 = k0 at *
    obtain ⟨b0, eb0⟩ : ∃ b, (k0 == 18) = b := ⟨_, rfl⟩
    rw [eb0]
    cases b0
    all_goals
      go_enter Tryz.func33, Tryz.ntmps33
      go_wp2_with fail
      refine wp_region_sub2 (by kernel_rfl) (by kernel_rfl) ?_
      intro cx
      repeat (first | go_big_quiet_skip | (go_big_quiet_want; go_big_quiet_op; first | go_big_quiet_on | (refine ⟨_, fun _ => rfl, ?_⟩; go_big_quiet_on)))
      refine wpQuiet_nil ?_
      rintro _ ⟨y, rfl⟩
      have Y : Hid (Below w.heap.size w y.w) := y.h
      have y0 := c0 y
      clear cx c0 d0
      generalize y.w = W at *
      go_wp2_with (first | (go_at_call 80; refine (F.out _ Y.out).mono ?_; rintro e w1 ⟨rfl, h⟩; have h' := h.symm; subst h'))
      go_ret
      exact ⟨rfl, Y.out⟩
  · rw [if_neg nn]
    have m2 : ((n : Int) == 1) = false := by simp; omega
    clear nn
    generalize allI (n - 1) (fun i => κ (1 + i)) = wh at *
    generalize κ 0 = k0 at *
    clear hk hr
    go_enter Tryz.func33, Tryz.ntmps33
    go_wp2_with fail
    refine wp_region_sub2 (by kernel_rfl) (by kernel_rfl) ?_
    intro cx
    repeat (first | go_big_quiet_skip | (go_big_quiet_want; go_big_quiet_op; first | go_big_quiet_on | (refine ⟨_, fun _ => rfl, ?_⟩; go_big_quiet_on)))
    refine wpQuiet_nil ?_
    rintro _ ⟨y, rfl⟩
    have Y : Hid (Below w.heap.size w y.w) := y.h
    have y0 := c0 y
    clear cx c0 d0
    generalize y.w = W at *
    go_wp2_with (first | (go_at_call 80; refine (F.out _ Y.out).mono ?_; rintro e w1 ⟨rfl, h⟩; have h' := h.symm; subst h'))
    go_ret
    exact ⟨rfl, Y.out⟩
end Go.Proofs.YtpaibmganlaaeaaGreatDoor
