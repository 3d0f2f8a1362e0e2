/- The document's gives, for single functions; no statement of the seat is proved here. -/
import Derived.Test.YtpaibmganlaaeaaGreatDoorFz28
namespace Go.Proofs.YtpaibmganlaaeaaGreatDoor
set_option linter.unusedVariables false
open Go.RowKit
set_option maxRecDepth 20000 in
set_option maxHeartbeats 1000000 in
theorem ov_65 (a : Addr) (n cap : Nat) (κ : Nat → Int) (w : World) (hk : KsAt w a n κ) (h1 : 1 ≤ n) (h2 : n ≤ 16) (hcap : n ≤ cap) (hr : ∀ i, 0 ≤ κ i ∧ κ i < 256) (hP : Pow w) :
    Calls Tryz.prog 33 #[.int .i64 65, .slice (some a) n cap] w fun e w' => e = .returned (.int .u8 (if n = 1 then gvK (1) (cvU 1 (κ 0)) else 0)) ∧ Below w.heap.size w w' := by
  have g3 : (0 : Int) < n := by omega
  have d0 : w.cell? a = some (.int .u8 (κ 0)) := by have := hk 0 (by omega); rwa [Addr.add_zero'] at this
  have c0 : ∀ x : Sub w, x.w.cell? a = some (.int .u8 (κ 0)) := fun x => by rw [x.h.cell (block_lt_of_cell d0)]; exact d0
  have F : Hid (∀ W, Below w.heap.size w W → Calls Tryz.prog 80 #[.slice (some a) n cap] W fun e w' => e = .returned (.bool (allI (n - 1) (fun i => κ (1 + i)))) ∧ w' = W) := fun W hb => func2_of a n cap κ W (hk.below hb) (by omega) h1 hcap hr
  have CV : Hid (∀ W, Below w.heap.size w W → Calls Tryz.prog 81 #[.int .u8 (κ 0), .int .u8 1] W fun e w' => e = .returned (.bool (cvU 1 (κ 0))) ∧ Below W.heap.size W w') := fun W hb => convertsR_of (κ 0) 1 W (by decide) (hr 0) (pow_below hP hb)
  by_cases nn : n = 1
  · rw [if_pos nn]
    subst nn
    clear hk hr
    generalize allI (1 - 1) (fun i => κ (1 + i)) = wh at *
    generalize cvU 1 (κ 0) = pc at *
    generalize κ 0 = k0 at *
    cases pc
    all_goals
      go_enter Tryz.func33, Tryz.ntmps33
      go_wp2_with fail
      refine wp_region_sub2 (by kernel_rfl) (by kernel_rfl) ?_
      intro cx
      repeat (first | go_big_quiet_skip | (go_big_quiet_want; go_big_quiet_op; first | go_big_quiet_on | (refine ⟨_, fun _ => rfl, ?_⟩; go_big_quiet_on)))
      refine wpQuiet_nil ?_
      rintro _ ⟨y, rfl⟩
      have Y : Hid (Below w.heap.size w y.w) := y.h
      have y0 := c0 y
      clear cx c0 d0
      generalize y.w = W at *
      go_wp2_with (first | (go_at_call 80; refine (F.out _ Y.out).mono ?_; rintro e w1 ⟨rfl, h⟩; have h' := h.symm; subst h') | (go_at_call 81; refine (CV.out _ Y.out).mono ?_; rintro e w1 ⟨rfl, h⟩; have Z : Hid (Below w.heap.size w w1) := Y.out.trans (h.mono Y.out.size); clear h))
      go_ret
      exact ⟨rfl, Z.out⟩
  · rw [if_neg nn]
    have m2 : ((n : Int) == 1) = false := by simp; omega
    clear nn
    generalize allI (n - 1) (fun i => κ (1 + i)) = wh at *
    generalize κ 0 = k0 at *
    clear hk hr
    go_enter Tryz.func33, Tryz.ntmps33
    go_wp2_with fail
    refine wp_region_sub2 (by kernel_rfl) (by kernel_rfl) ?_
    intro cx
    repeat (first | go_big_quiet_skip | (go_big_quiet_want; go_big_quiet_op; first | go_big_quiet_on | (refine ⟨_, fun _ => rfl, ?_⟩; go_big_quiet_on)))
    refine wpQuiet_nil ?_
    rintro _ ⟨y, rfl⟩
    have Y : Hid (Below w.heap.size w y.w) := y.h
    have y0 := c0 y
    clear cx c0 d0
    generalize y.w = W at *
    go_wp2_with (first | (go_at_call 80; refine (F.out _ Y.out).mono ?_; rintro e w1 ⟨rfl, h⟩; have h' := h.symm; subst h'))
    go_ret
    exact ⟨rfl, Y.out⟩
set_option maxRecDepth 20000 in
set_option maxHeartbeats 1000000 in
theorem ov_66 (a : Addr) (n cap : Nat) (κ : Nat → Int) (w : World) (hk : KsAt w a n κ) (h1 : 1 ≤ n) (h2 : n ≤ 16) (hcap : n ≤ cap) (hr : ∀ i, 0 ≤ κ i ∧ κ i < 256) (hP : Pow w) :
    Calls Tryz.prog 33 #[.int .i64 66, .slice (some a) n cap] w fun e w' => e = .returned (.int .u8 (if n = 1 then gvK (2) (cvU 2 (κ 0)) else 0)) ∧ Below w.heap.size w w' := by
  have g3 : (0 : Int) < n := by omega
  have d0 : w.cell? a = some (.int .u8 (κ 0)) := by have := hk 0 (by omega); rwa [Addr.add_zero'] at this
  have c0 : ∀ x : Sub w, x.w.cell? a = some (.int .u8 (κ 0)) := fun x => by rw [x.h.cell (block_lt_of_cell d0)]; exact d0
  have F : Hid (∀ W, Below w.heap.size w W → Calls Tryz.prog 80 #[.slice (some a) n cap] W fun e w' => e = .returned (.bool (allI (n - 1) (fun i => κ (1 + i)))) ∧ w' = W) := fun W hb => func2_of a n cap κ W (hk.below hb) (by omega) h1 hcap hr
  have CV : Hid (∀ W, Below w.heap.size w W → Calls Tryz.prog 81 #[.int .u8 (κ 0), .int .u8 2] W fun e w' => e = .returned (.bool (cvU 2 (κ 0))) ∧ Below W.heap.size W w') := fun W hb => convertsR_of (κ 0) 2 W (by decide) (hr 0) (pow_below hP hb)
  by_cases nn : n = 1
  · rw [if_pos nn]
    subst nn
    clear hk hr
    generalize allI (1 - 1) (fun i => κ (1 + i)) = wh at *
    generalize cvU 2 (κ 0) = pc at *
    generalize κ 0 = k0 at *
    cases pc
    all_goals
      go_enter Tryz.func33, Tryz.ntmps33
      go_wp2_with fail
      refine wp_region_sub2 (by kernel_rfl) (by kernel_rfl) ?_
      intro cx
      repeat (first | go_big_quiet_skip | (go_big_quiet_want; go_big_quiet_op; first | go_big_quiet_on | (refine ⟨_, fun _ => rfl, ?_⟩; go_big_quiet_on)))
      refine wpQuiet_nil ?_
      rintro _ ⟨y, rfl⟩
      have Y : Hid (Below w.heap.size w y.w) := y.h
      have y0 := c0 y
      clear cx c0 d0
      generalize y.w = W at *
      go_wp2_with (first | (go_at_call 80; refine (F.out _ Y.out).mono ?_; rintro e w1 ⟨rfl, h⟩; have h' := h.symm; subst h') | (go_at_call 81; refine (CV.out _ Y.out).mono ?_; rintro e w1 ⟨rfl, h⟩; have Z : Hid (Below w.heap.size w w1) := Y.out.trans (h.mono Y.out.size); clear h))
      go_ret
      exact ⟨rfl, Z.out⟩
  · rw [if_neg nn]
    have m2 : ((n : Int) == 1) = false := by simp; omega
    clear nn
    generalize allI (n - 1) (fun i => κ (1 + i)) = wh at *
    generalize κ 0 = k0 at *
    clear hk hr
    go_enter Tryz.func33, Tryz.ntmps33
    go_wp2_with fail
    refine wp_region_sub2 (by kernel_rfl) (by kernel_rfl) ?_
    intro cx
    repeat (first | go_big_quiet_skip | (go_big_quiet_want; go_big_quiet_op; first | go_big_quiet_on | (refine ⟨_, fun _ => rfl, ?_⟩; go_big_quiet_on)))
    refine wpQuiet_nil ?_
    rintro _ ⟨y, rfl⟩
    have Y : Hid (Below w.heap.size w y.w) := y.h
    have y0 := c0 y
    clear cx c0 d0
    generalize y.w = W at *
    go_wp2_with (first | (go_at_call 80; refine (F.out _ Y.out).mono ?_; rintro e w1 ⟨rfl, h⟩; have h' := h.symm; subst h'))
    go_ret
    exact ⟨rfl, Y.out⟩
set_option maxRecDepth 20000 in
set_option maxHeartbeats 1000000 in
theorem ov_67 (a : Addr) (n cap : Nat) (κ : Nat → Int) (w : World) (hk : KsAt w a n κ) (h1 : 1 ≤ n) (h2 : n ≤ 16) (hcap : n ≤ cap) (hr : ∀ i, 0 ≤ κ i ∧ κ i < 256) (hP : Pow w) :
    Calls Tryz.prog 33 #[.int .i64 67, .slice (some a) n cap] w fun e w' => e = .returned (.int .u8 (if n = 1 then gvK (3) (cvU 3 (κ 0)) else 0)) ∧ Below w.heap.size w w' := by
  have g3 : (0 : Int) < n := by omega
  have d0 : w.cell? a = some (.int .u8 (κ 0)) := by have := hk 0 (by omega); rwa [Addr.add_zero'] at this
  have c0 : ∀ x : Sub w, x.w.cell? a = some (.int .u8 (κ 0)) := fun x => by rw [x.h.cell (block_lt_of_cell d0)]; exact d0
  have F : Hid (∀ W, Below w.heap.size w W → Calls Tryz.prog 80 #[.slice (some a) n cap] W fun e w' => e = .returned (.bool (allI (n - 1) (fun i => κ (1 + i)))) ∧ w' = W) := fun W hb => func2_of a n cap κ W (hk.below hb) (by omega) h1 hcap hr
  have CV : Hid (∀ W, Below w.heap.size w W → Calls Tryz.prog 81 #[.int .u8 (κ 0), .int .u8 3] W fun e w' => e = .returned (.bool (cvU 3 (κ 0))) ∧ Below W.heap.size W w') := fun W hb => convertsR_of (κ 0) 3 W (by decide) (hr 0) (pow_below hP hb)
  by_cases nn : n = 1
  · rw [if_pos nn]
    subst nn
    clear hk hr
    generalize allI (1 - 1) (fun i => κ (1 + i)) = wh at *
    generalize cvU 3 (κ 0) = pc at *
    generalize κ 0 = k0 at *
    cases pc
    all_goals
      go_enter Tryz.func33, Tryz.ntmps33
      go_wp2_with fail
      refine wp_region_sub2 (by kernel_rfl) (by kernel_rfl) ?_
      intro cx
      repeat (first | go_big_quiet_skip | (go_big_quiet_want; go_big_quiet_op; first | go_big_quiet_on | (refine ⟨_, fun _ => rfl, ?_⟩; go_big_quiet_on)))
      refine wpQuiet_nil ?_
      rintro _ ⟨y, rfl⟩
      have Y : Hid (Below w.heap.size w y.w) := y.h
      have y0 := c0 y
      clear cx c0 d0
      generalize y.w = W at *
      go_wp2_with (first | (go_at_call 80; refine (F.out _ Y.out).mono ?_; rintro e w1 ⟨rfl, h⟩; have h' := h.symm; subst h') | (go_at_call 81; refine (CV.out _ Y.out).mono ?_; rintro e w1 ⟨rfl, h⟩; have Z : Hid (Below w.heap.size w w1) := Y.out.trans (h.mono Y.out.size); clear h))
      go_ret
      exact ⟨rfl, Z.out⟩
  · rw [if_neg nn]
    have m2 : ((n : Int) == 1) = false := by simp; omega
    clear nn
    generalize allI (n - 1) (fun i => κ (1 + i)) = wh at *
    generalize κ 0 = k0 at *
    clear hk hr
    go_enter Tryz.func33, Tryz.ntmps33
    go_wp2_with fail
    refine wp_region_sub2 (by kernel_rfl) (by kernel_rfl) ?_
    intro cx
    repeat (first | go_big_quiet_skip | (go_big_quiet_want; go_big_quiet_op; first | go_big_quiet_on | (refine ⟨_, fun _ => rfl, ?_⟩; go_big_quiet_on)))
    refine wpQuiet_nil ?_
    rintro _ ⟨y, rfl⟩
    have Y : Hid (Below w.heap.size w y.w) := y.h
    have y0 := c0 y
    clear cx c0 d0
    generalize y.w = W at *
    go_wp2_with (first | (go_at_call 80; refine (F.out _ Y.out).mono ?_; rintro e w1 ⟨rfl, h⟩; have h' := h.symm; subst h'))
    go_ret
    exact ⟨rfl, Y.out⟩
set_option maxRecDepth 20000 in
set_option maxHeartbeats 1000000 in
theorem ov_68 (a : Addr) (n cap : Nat) (κ : Nat → Int) (w : World) (hk : KsAt w a n κ) (h1 : 1 ≤ n) (h2 : n ≤ 16) (hcap : n ≤ cap) (hr : ∀ i, 0 ≤ κ i ∧ κ i < 256) (hP : Pow w) :
    Calls Tryz.prog 33 #[.int .i64 68, .slice (some a) n cap] w fun e w' => e = .returned (.int .u8 (if n = 1 then gvK (4) (cvU 4 (κ 0)) else 0)) ∧ Below w.heap.size w w' := by
  have g3 : (0 : Int) < n := by omega
  have d0 : w.cell? a = some (.int .u8 (κ 0)) := by have := hk 0 (by omega); rwa [Addr.add_zero'] at this
  have c0 : ∀ x : Sub w, x.w.cell? a = some (.int .u8 (κ 0)) := fun x => by rw [x.h.cell (block_lt_of_cell d0)]; exact d0
  have F : Hid (∀ W, Below w.heap.size w W → Calls Tryz.prog 80 #[.slice (some a) n cap] W fun e w' => e = .returned (.bool (allI (n - 1) (fun i => κ (1 + i)))) ∧ w' = W) := fun W hb => func2_of a n cap κ W (hk.below hb) (by omega) h1 hcap hr
  have CV : Hid (∀ W, Below w.heap.size w W → Calls Tryz.prog 81 #[.int .u8 (κ 0), .int .u8 4] W fun e w' => e = .returned (.bool (cvU 4 (κ 0))) ∧ Below W.heap.size W w') := fun W hb => convertsR_of (κ 0) 4 W (by decide) (hr 0) (pow_below hP hb)
  by_cases nn : n = 1
  · rw [if_pos nn]
    subst nn
    clear hk hr
    generalize allI (1 - 1) (fun i => κ (1 + i)) = wh at *
    generalize cvU 4 (κ 0) = pc at *
    generalize κ 0 = k0 at *
    cases pc
    all_goals
      go_enter Tryz.func33, Tryz.ntmps33
      go_wp2_with fail
      refine wp_region_sub2 (by kernel_rfl) (by kernel_rfl) ?_
      intro cx
      repeat (first | go_big_quiet_skip | (go_big_quiet_want; go_big_quiet_op; first | go_big_quiet_on | (refine ⟨_, fun _ => rfl, ?_⟩; go_big_quiet_on)))
      refine wpQuiet_nil ?_
      rintro _ ⟨y, rfl⟩
      have Y : Hid (Below w.heap.size w y.w) := y.h
      have y0 := c0 y
      clear cx c0 d0
      generalize y.w = W at *
      go_wp2_with (first | (go_at_call 80; refine (F.out _ Y.out).mono ?_; rintro e w1 ⟨rfl, h⟩; have h' := h.symm; subst h') | (go_at_call 81; refine (CV.out _ Y.out).mono ?_; rintro e w1 ⟨rfl, h⟩; have Z : Hid (Below w.heap.size w w1) := Y.out.trans (h.mono Y.out.size); clear h))
      go_ret
      exact ⟨rfl, Z.out⟩
  · rw [if_neg nn]
    have m2 : ((n : Int) == 1) = false := by simp; omega
    clear nn
    generalize allI (n - 1) (fun i => κ (1 + i)) = wh at *
    generalize κ 0 = k0 at *
    clear hk hr
    go_enter Tryz.func33, Tryz.ntmps33
    go_wp2_with fail
    refine wp_region_sub2 (by kernel_rfl) (by kernel_rfl) ?_
    intro cx
    repeat (first | go_big_quiet_skip | (go_big_quiet_want; go_big_quiet_op; first | go_big_quiet_on | (refine ⟨_, fun _ => rfl, ?_⟩; go_big_quiet_on)))
    refine wpQuiet_nil ?_
    rintro _ ⟨y, rfl⟩
    have Y : Hid (Below w.heap.size w y.w) := y.h
    have y0 := c0 y
    clear cx c0 d0
    generalize y.w = W at *
    go_wp2_with (first | (go_at_call 80; refine (F.out _ Y.out).mono ?_; rintro e w1 ⟨rfl, h⟩; have h' := h.symm; subst h'))
    go_ret
    exact ⟨rfl, Y.out⟩
set_option maxRecDepth 20000 in
set_option maxHeartbeats 1000000 in
theorem ov_69 (a : Addr) (n cap : Nat) (κ : Nat → Int) (w : World) (hk : KsAt w a n κ) (h1 : 1 ≤ n) (h2 : n ≤ 16) (hcap : n ≤ cap) (hr : ∀ i, 0 ≤ κ i ∧ κ i < 256) (hP : Pow w) :
    Calls Tryz.prog 33 #[.int .i64 69, .slice (some a) n cap] w fun e w' => e = .returned (.int .u8 (if n = 1 then gvK (5) (cvU 5 (κ 0)) else 0)) ∧ Below w.heap.size w w' := by
  have g3 : (0 : Int) < n := by omega
  have d0 : w.cell? a = some (.int .u8 (κ 0)) := by have := hk 0 (by omega); rwa [Addr.add_zero'] at this
  have c0 : ∀ x : Sub w, x.w.cell? a = some (.int .u8 (κ 0)) := fun x => by rw [x.h.cell (block_lt_of_cell d0)]; exact d0
  have F : Hid (∀ W, Below w.heap.size w W → Calls Tryz.prog 80 #[.slice (some a) n cap] W fun e w' => e = .returned (.bool (allI (n - 1) (fun i => κ (1 + i)))) ∧ w' = W) := fun W hb => func2_of a n cap κ W (hk.below hb) (by omega) h1 hcap hr
  have CV : Hid (∀ W, Below w.heap.size w W → Calls Tryz.prog 81 #[.int .u8 (κ 0), .int .u8 5] W fun e w' => e = .returned (.bool (cvU 5 (κ 0))) ∧ Below W.heap.size W w') := fun W hb => convertsR_of (κ 0) 5 W (by decide) (hr 0) (pow_below hP hb)
  by_cases nn : n = 1
  · rw [if_pos nn]
    subst nn
    clear hk hr
    generalize allI (1 - 1) (fun i => κ (1 + i)) = wh at *
    generalize cvU 5 (κ 0) = pc at *
    generalize κ 0 = k0 at *
    cases pc
    all_goals
      go_enter Tryz.func33, Tryz.ntmps33
      go_wp2_with fail
      refine wp_region_sub2 (by kernel_rfl) (by kernel_rfl) ?_
      intro cx
      repeat (first | go_big_quiet_skip | (go_big_quiet_want; go_big_quiet_op; first | go_big_quiet_on | (refine ⟨_, fun _ => rfl, ?_⟩; go_big_quiet_on)))
      refine wpQuiet_nil ?_
      rintro _ ⟨y, rfl⟩
      have Y : Hid (Below w.heap.size w y.w) := y.h
      have y0 := c0 y
      clear cx c0 d0
      generalize y.w = W at *
      go_wp2_with (first | (go_at_call 80; refine (F.out _ Y.out).mono ?_; rintro e w1 ⟨rfl, h⟩; have h' := h.symm; subst h') | (go_at_call 81; refine (CV.out _ Y.out).mono ?_; rintro e w1 ⟨rfl, h⟩; have Z : Hid (Below w.heap.size w w1) := Y.out.trans (h.mono Y.out.size); clear h))
      go_ret
      exact ⟨rfl, Z.out⟩
  · rw [if_neg nn]
    have m2 : ((n : Int) == 1) = false := by simp; omega
    clear nn
    generalize allI (n - 1) (fun i => κ (1 + i)) = wh at *
    generalize κ 0 = k0 at *
    clear hk hr
    go_enter Tryz.func33, Tryz.ntmps33
    go_wp2_with fail
    refine wp_region_sub2 (by kernel_rfl) (by kernel_rfl) ?_
    intro cx
    repeat (first | go_big_quiet_skip | (go_big_quiet_want; go_big_quiet_op; first | go_big_quiet_on | (refine ⟨_, fun _ => rfl, ?_⟩; go_big_quiet_on)))
    refine wpQuiet_nil ?_
    rintro _ ⟨y, rfl⟩
    have Y : Hid (Below w.heap.size w y.w) := y.h
    have y0 := c0 y
    clear cx c0 d0
    generalize y.w = W at *
    go_wp2_with (first | (go_at_call 80; refine (F.out _ Y.out).mono ?_; rintro e w1 ⟨rfl, h⟩; have h' := h.symm; subst h'))
    go_ret
    exact ⟨rfl, Y.out⟩
set_option maxRecDepth 20000 in
set_option maxHeartbeats 1000000 in
theorem ov_70 (a : Addr) (n cap : Nat) (κ : Nat → Int) (w : World) (hk : KsAt w a n κ) (h1 : 1 ≤ n) (h2 : n ≤ 16) (hcap : n ≤ cap) (hr : ∀ i, 0 ≤ κ i ∧ κ i < 256) (hP : Pow w) :
    Calls Tryz.prog 33 #[.int .i64 70, .slice (some a) n cap] w fun e w' => e = .returned (.int .u8 (if n = 1 then gvK (6) (cvU 6 (κ 0)) else 0)) ∧ Below w.heap.size w w' := by
  have g3 : (0 : Int) < n := by omega
  have d0 : w.cell? a = some (.int .u8 (κ 0)) := by have := hk 0 (by omega); rwa [Addr.add_zero'] at this
  have c0 : ∀ x : Sub w, x.w.cell? a = some (.int .u8 (κ 0)) := fun x => by rw [x.h.cell (block_lt_of_cell d0)]; exact d0
  have F : Hid (∀ W, Below w.heap.size w W → Calls Tryz.prog 80 #[.slice (some a) n cap] W fun e w' => e = .returned (.bool (allI (n - 1) (fun i => κ (1 + i)))) ∧ w' = W) := fun W hb => func2_of a n cap κ W (hk.below hb) (by omega) h1 hcap hr
  have CV : Hid (∀ W, Below w.heap.size w W → Calls Tryz.prog 81 #[.int .u8 (κ 0), .int .u8 6] W fun e w' => e = .returned (.bool (cvU 6 (κ 0))) ∧ Below W.heap.size W w') := fun W hb => convertsR_of (κ 0) 6 W (by decide) (hr 0) (pow_below hP hb)
  by_cases nn : n = 1
  · rw [if_pos nn]
    subst nn
    clear hk hr
    generalize allI (1 - 1) (fun i => κ (1 + i)) = wh at *
    generalize cvU 6 (κ 0) = pc at *
    generalize κ 0 = k0 at *
    cases pc
    all_goals
      go_enter Tryz.func33, Tryz.ntmps33
      go_wp2_with fail
      refine wp_region_sub2 (by kernel_rfl) (by kernel_rfl) ?_
      intro cx
      repeat (first | go_big_quiet_skip | (go_big_quiet_want; go_big_quiet_op; first | go_big_quiet_on | (refine ⟨_, fun _ => rfl, ?_⟩; go_big_quiet_on)))
      refine wpQuiet_nil ?_
      rintro _ ⟨y, rfl⟩
      have Y : Hid (Below w.heap.size w y.w) := y.h
      have y0 := c0 y
      clear cx c0 d0
      generalize y.w = W at *
      go_wp2_with (first | (go_at_call 80; refine (F.out _ Y.out).mono ?_; rintro e w1 ⟨rfl, h⟩; have h' := h.symm; subst h') | (go_at_call 81; refine (CV.out _ Y.out).mono ?_; rintro e w1 ⟨rfl, h⟩; have Z : Hid (Below w.heap.size w w1) := Y.out.trans (h.mono Y.out.size); clear h))
      go_ret
      exact ⟨rfl, Z.out⟩
  · rw [if_neg nn]
    have m2 : ((n : Int) == 1) = false := by simp; omega
    clear nn
    generalize allI (n - 1) (fun i => κ (1 + i)) = wh at *
    generalize κ 0 = k0 at *
    clear hk hr
    go_enter Tryz.func33, Tryz.ntmps33
    go_wp2_with fail
    refine wp_region_sub2 (by kernel_rfl) (by kernel_rfl) ?_
    intro cx
    repeat (first | go_big_quiet_skip | (go_big_quiet_want; go_big_quiet_op; first | go_big_quiet_on | (refine ⟨_, fun _ => rfl, ?_⟩; go_big_quiet_on)))
    refine wpQuiet_nil ?_
    rintro _ ⟨y, rfl⟩
    have Y : Hid (Below w.heap.size w y.w) := y.h
    have y0 := c0 y
    clear cx c0 d0
    generalize y.w = W at *
    go_wp2_with (first | (go_at_call 80; refine (F.out _ Y.out).mono ?_; rintro e w1 ⟨rfl, h⟩; have h' := h.symm; subst h'))
    go_ret
    exact ⟨rfl, Y.out⟩
set_option maxRecDepth 20000 in
set_option maxHeartbeats 1000000 in
theorem ov_71 (a : Addr) (n cap : Nat) (κ : Nat → Int) (w : World) (hk : KsAt w a n κ) (h1 : 1 ≤ n) (h2 : n ≤ 16) (hcap : n ≤ cap) (hr : ∀ i, 0 ≤ κ i ∧ κ i < 256) (hP : Pow w) :
    Calls Tryz.prog 33 #[.int .i64 71, .slice (some a) n cap] w fun e w' => e = .returned (.int .u8 (if n = 1 then gvK (7) (cvU 7 (κ 0)) else 0)) ∧ Below w.heap.size w w' := by
  have g3 : (0 : Int) < n := by omega
  have d0 : w.cell? a = some (.int .u8 (κ 0)) := by have := hk 0 (by omega); rwa [Addr.add_zero'] at this
  have c0 : ∀ x : Sub w, x.w.cell? a = some (.int .u8 (κ 0)) := fun x => by rw [x.h.cell (block_lt_of_cell d0)]; exact d0
  have F : Hid (∀ W, Below w.heap.size w W → Calls Tryz.prog 80 #[.slice (some a) n cap] W fun e w' => e = .returned (.bool (allI (n - 1) (fun i => κ (1 + i)))) ∧ w' = W) := fun W hb => func2_of a n cap κ W (hk.below hb) (by omega) h1 hcap hr
  have CV : Hid (∀ W, Below w.heap.size w W → Calls Tryz.prog 81 #[.int .u8 (κ 0), .int .u8 7] W fun e w' => e = .returned (.bool (cvU 7 (κ 0))) ∧ Below W.heap.size W w') := fun W hb => convertsR_of (κ 0) 7 W (by decide) (hr 0) (pow_below hP hb)
  by_cases nn : n = 1
  · rw [if_pos nn]
    subst nn
    clear hk hr
    generalize allI (1 - 1) (fun i => κ (1 + i)) = wh at *
    generalize cvU 7 (κ 0) = pc at *
    generalize κ 0 = k0 at *
    cases pc
    all_goals
      go_enter Tryz.func33, Tryz.ntmps33
      go_wp2_with fail
      refine wp_region_sub2 (by kernel_rfl) (by kernel_rfl) ?_
      intro cx
      repeat (first | go_big_quiet_skip | (go_big_quiet_want; go_big_quiet_op; first | go_big_quiet_on | (refine ⟨_, fun _ => rfl, ?_⟩; go_big_quiet_on)))
      refine wpQuiet_nil ?_
      rintro _ ⟨y, rfl⟩
      have Y : Hid (Below w.heap.size w y.w) := y.h
      have y0 := c0 y
      clear cx c0 d0
      generalize y.w = W at *
      go_wp2_with (first | (go_at_call 80; refine (F.out _ Y.out).mono ?_; rintro e w1 ⟨rfl, h⟩; have h' := h.symm; subst h') | (go_at_call 81; refine (CV.out _ Y.out).mono ?_; rintro e w1 ⟨rfl, h⟩; have Z : Hid (Below w.heap.size w w1) := Y.out.trans (h.mono Y.out.size); clear h))
      go_ret
      exact ⟨rfl, Z.out⟩
  · rw [if_neg nn]
    have m2 : ((n : Int) == 1) = false := by simp; omega
    clear nn
    generalize allI (n - 1) (fun i => κ (1 + i)) = wh at *
    generalize κ 0 = k0 at *
    clear hk hr
    go_enter Tryz.func33, Tryz.ntmps33
    go_wp2_with fail
    refine wp_region_sub2 (by kernel_rfl) (by kernel_rfl) ?_
    intro cx
    repeat (first | go_big_quiet_skip | (go_big_quiet_want; go_big_quiet_op; first | go_big_quiet_on | (refine ⟨_, fun _ => rfl, ?_⟩; go_big_quiet_on)))
    refine wpQuiet_nil ?_
    rintro _ ⟨y, rfl⟩
    have Y : Hid (Below w.heap.size w y.w) := y.h
    have y0 := c0 y
    clear cx c0 d0
    generalize y.w = W at *
    go_wp2_with (first | (go_at_call 80; refine (F.out _ Y.out).mono ?_; rintro e w1 ⟨rfl, h⟩; have h' := h.symm; subst h'))
    go_ret
    exact ⟨rfl, Y.out⟩
set_option maxRecDepth 20000 in
set_option maxHeartbeats 1000000 in
theorem ov_72 (a : Addr) (n cap : Nat) (κ : Nat → Int) (w : World) (hk : KsAt w a n κ) (h1 : 1 ≤ n) (h2 : n ≤ 16) (hcap : n ≤ cap) (hr : ∀ i, 0 ≤ κ i ∧ κ i < 256) (hP : Pow w) :
    Calls Tryz.prog 33 #[.int .i64 72, .slice (some a) n cap] w fun e w' => e = .returned (.int .u8 (if n = 1 then gvK (8) (cvU 8 (κ 0)) else 0)) ∧ Below w.heap.size w w' := by
  have g3 : (0 : Int) < n := by omega
  have d0 : w.cell? a = some (.int .u8 (κ 0)) := by have := hk 0 (by omega); rwa [Addr.add_zero'] at this
  have c0 : ∀ x : Sub w, x.w.cell? a = some (.int .u8 (κ 0)) := fun x => by rw [x.h.cell (block_lt_of_cell d0)]; exact d0
  have F : Hid (∀ W, Below w.heap.size w W → Calls Tryz.prog 80 #[.slice (some a) n cap] W fun e w' => e = .returned (.bool (allI (n - 1) (fun i => κ (1 + i)))) ∧ w' = W) := fun W hb => func2_of a n cap κ W (hk.below hb) (by omega) h1 hcap hr
  have CV : Hid (∀ W, Below w.heap.size w W → Calls Tryz.prog 81 #[.int .u8 (κ 0), .int .u8 8] W fun e w' => e = .returned (.bool (cvU 8 (κ 0))) ∧ Below W.heap.size W w') := fun W hb => convertsR_of (κ 0) 8 W (by decide) (hr 0) (pow_below hP hb)
  by_cases nn : n = 1
  · rw [if_pos nn]
    subst nn
    clear hk hr
    generalize allI (1 - 1) (fun i => κ (1 + i)) = wh at *
    generalize cvU 8 (κ 0) = pc at *
    generalize κ 0 = k0 at *
    cases pc
    all_goals
      go_enter Tryz.func33, Tryz.ntmps33
      go_wp2_with fail
      refine wp_region_sub2 (by kernel_rfl) (by kernel_rfl) ?_
      intro cx
      repeat (first | go_big_quiet_skip | (go_big_quiet_want; go_big_quiet_op; first | go_big_quiet_on | (refine ⟨_, fun _ => rfl, ?_⟩; go_big_quiet_on)))
      refine wpQuiet_nil ?_
      rintro _ ⟨y, rfl⟩
      have Y : Hid (Below w.heap.size w y.w) := y.h
      have y0 := c0 y
      clear cx c0 d0
      generalize y.w = W at *
      go_wp2_with (first | (go_at_call 80; refine (F.out _ Y.out).mono ?_; rintro e w1 ⟨rfl, h⟩; have h' := h.symm; subst h') | (go_at_call 81; refine (CV.out _ Y.out).mono ?_; rintro e w1 ⟨rfl, h⟩; have Z : Hid (Below w.heap.size w w1) := Y.out.trans (h.mono Y.out.size); clear h))
      go_ret
      exact ⟨rfl, Z.out⟩
  · rw [if_neg nn]
    have m2 : ((n : Int) == 1) = false := by simp; omega
    clear nn
    generalize allI (n - 1) (fun i => κ (1 + i)) = wh at *
    generalize κ 0 = k0 at *
    clear hk hr
    go_enter Tryz.func33, Tryz.ntmps33
    go_wp2_with fail
    refine wp_region_sub2 (by kernel_rfl) (by kernel_rfl) ?_
    intro cx
    repeat (first | go_big_quiet_skip | (go_big_quiet_want; go_big_quiet_op; first | go_big_quiet_on | (refine ⟨_, fun _ => rfl, ?_⟩; go_big_quiet_on)))
    refine wpQuiet_nil ?_
    rintro _ ⟨y, rfl⟩
    have Y : Hid (Below w.heap.size w y.w) := y.h
    have y0 := c0 y
    clear cx c0 d0
    generalize y.w = W at *
    go_wp2_with (first | (go_at_call 80; refine (F.out _ Y.out).mono ?_; rintro e w1 ⟨rfl, h⟩; have h' := h.symm; subst h'))
    go_ret
    exact ⟨rfl, Y.out⟩
set_option maxRecDepth 20000 in
set_option maxHeartbeats 1000000 in
theorem ov_73 (a : Addr) (n cap : Nat) (κ : Nat → Int) (w : World) (hk : KsAt w a n κ) (h1 : 1 ≤ n) (h2 : n ≤ 16) (hcap : n ≤ cap) (hr : ∀ i, 0 ≤ κ i ∧ κ i < 256) (hP : Pow w) :
    Calls Tryz.prog 33 #[.int .i64 73, .slice (some a) n cap] w fun e w' => e = .returned (.int .u8 (if n = 1 then gvK (9) (cvU 9 (κ 0)) else 0)) ∧ Below w.heap.size w w' := by
  have g3 : (0 : Int) < n := by omega
  have d0 : w.cell? a = some (.int .u8 (κ 0)) := by have := hk 0 (by omega); rwa [Addr.add_zero'] at this
  have c0 : ∀ x : Sub w, x.w.cell? a = some (.int .u8 (κ 0)) := fun x => by rw [x.h.cell (block_lt_of_cell d0)]; exact d0
  have F : Hid (∀ W, Below w.heap.size w W → Calls Tryz.prog 80 #[.slice (some a) n cap] W fun e w' => e = .returned (.bool (allI (n - 1) (fun i => κ (1 + i)))) ∧ w' = W) := fun W hb => func2_of a n cap κ W (hk.below hb) (by omega) h1 hcap hr
  have CV : Hid (∀ W, Below w.heap.size w W → Calls Tryz.prog 81 #[.int .u8 (κ 0), .int .u8 9] W fun e w' => e = .returned (.bool (cvU 9 (κ 0))) ∧ Below W.heap.size W w') := fun W hb => convertsR_of (κ 0) 9 W (by decide) (hr 0) (pow_below hP hb)
  by_cases nn : n = 1
  · rw [if_pos nn]
    subst nn
    clear hk hr
    generalize allI (1 - 1) (fun i => κ (1 + i)) = wh at *
    generalize cvU 9 (κ 0) = pc at *
    generalize κ 0 = k0 at *
    cases pc
    all_goals
      go_enter Tryz.func33, Tryz.ntmps33
      go_wp2_with fail
      refine wp_region_sub2 (by kernel_rfl) (by kernel_rfl) ?_
      intro cx
      repeat (first | go_big_quiet_skip | (go_big_quiet_want; go_big_quiet_op; first | go_big_quiet_on | (refine ⟨_, fun _ => rfl, ?_⟩; go_big_quiet_on)))
      refine wpQuiet_nil ?_
      rintro _ ⟨y, rfl⟩
      have Y : Hid (Below w.heap.size w y.w) := y.h
      have y0 := c0 y
      clear cx c0 d0
      generalize y.w = W at *
      go_wp2_with (first | (go_at_call 80; refine (F.out _ Y.out).mono ?_; rintro e w1 ⟨rfl, h⟩; have h' := h.symm; subst h') | (go_at_call 81; refine (CV.out _ Y.out).mono ?_; rintro e w1 ⟨rfl, h⟩; have Z : Hid (Below w.heap.size w w1) := Y.out.trans (h.mono Y.out.size); clear h))
      go_ret
      exact ⟨rfl, Z.out⟩
  · rw [if_neg nn]
    have m2 : ((n : Int) == 1) = false := by simp; omega
    clear nn
    generalize allI (n - 1) (fun i => κ (1 + i)) = wh at *
    generalize κ 0 = k0 at *
    clear hk hr
    go_enter Tryz.func33, Tryz.ntmps33
    go_wp2_with fail
    refine wp_region_sub2 (by kernel_rfl) (by kernel_rfl) ?_
    intro cx
    repeat (first | go_big_quiet_skip | (go_big_quiet_want; go_big_quiet_op; first | go_big_quiet_on | (refine ⟨_, fun _ => rfl, ?_⟩; go_big_quiet_on)))
    refine wpQuiet_nil ?_
    rintro _ ⟨y, rfl⟩
    have Y : Hid (Below w.heap.size w y.w) := y.h
    have y0 := c0 y
    clear cx c0 d0
    generalize y.w = W at *
    go_wp2_with (first | (go_at_call 80; refine (F.out _ Y.out).mono ?_; rintro e w1 ⟨rfl, h⟩; have h' := h.symm; subst h'))
    go_ret
    exact ⟨rfl, Y.out⟩
set_option maxRecDepth 20000 in
set_option maxHeartbeats 1000000 in
theorem ov_74 (a : Addr) (n cap : Nat) (κ : Nat → Int) (w : World) (hk : KsAt w a n κ) (h1 : 1 ≤ n) (h2 : n ≤ 16) (hcap : n ≤ cap) (hr : ∀ i, 0 ≤ κ i ∧ κ i < 256) (hP : Pow w) :
    Calls Tryz.prog 33 #[.int .i64 74, .slice (some a) n cap] w fun e w' => e = .returned (.int .u8 (if n = 1 then gvK (10) (cvU 10 (κ 0)) else 0)) ∧ Below w.heap.size w w' := by
  have g3 : (0 : Int) < n := by omega
  have d0 : w.cell? a = some (.int .u8 (κ 0)) := by have := hk 0 (by omega); rwa [Addr.add_zero'] at this
  have c0 : ∀ x : Sub w, x.w.cell? a = some (.int .u8 (κ 0)) := fun x => by rw [x.h.cell (block_lt_of_cell d0)]; exact d0
  have F : Hid (∀ W, Below w.heap.size w W → Calls Tryz.prog 80 #[.slice (some a) n cap] W fun e w' => e = .returned (.bool (allI (n - 1) (fun i => κ (1 + i)))) ∧ w' = W) := fun W hb => func2_of a n cap κ W (hk.below hb) (by omega) h1 hcap hr
  have CV : Hid (∀ W, Below w.heap.size w W → Calls Tryz.prog 81 #[.int .u8 (κ 0), .int .u8 10] W fun e w' => e = .returned (.bool (cvU 10 (κ 0))) ∧ Below W.heap.size W w') := fun W hb => convertsR_of (κ 0) 10 W (by decide) (hr 0) (pow_below hP hb)
  by_cases nn : n = 1
  · rw [if_pos nn]
    subst nn
    clear hk hr
    generalize allI (1 - 1) (fun i => κ (1 + i)) = wh at *
    generalize cvU 10 (κ 0) = pc at *
    generalize κ 0 = k0 at *
    cases pc
    all_goals
      go_enter Tryz.func33, Tryz.ntmps33
      go_wp2_with fail
      refine wp_region_sub2 (by kernel_rfl) (by kernel_rfl) ?_
      intro cx
      repeat (first | go_big_quiet_skip | (go_big_quiet_want; go_big_quiet_op; first | go_big_quiet_on | (refine ⟨_, fun _ => rfl, ?_⟩; go_big_quiet_on)))
      refine wpQuiet_nil ?_
      rintro _ ⟨y, rfl⟩
      have Y : Hid (Below w.heap.size w y.w) := y.h
      have y0 := c0 y
      clear cx c0 d0
      generalize y.w = W at *
      go_wp2_with (first | (go_at_call 80; refine (F.out _ Y.out).mono ?_; rintro e w1 ⟨rfl, h⟩; have h' := h.symm; subst h') | (go_at_call 81; refine (CV.out _ Y.out).mono ?_; rintro e w1 ⟨rfl, h⟩; have Z : Hid (Below w.heap.size w w1) := Y.out.trans (h.mono Y.out.size); clear h))
      go_ret
      exact ⟨rfl, Z.out⟩
  · rw [if_neg nn]
    have m2 : ((n : Int) == 1) = false := by simp; omega
    clear nn
    generalize allI (n - 1) (fun i => κ (1 + i)) = wh at *
    generalize κ 0 = k0 at *
    clear hk hr
    go_enter Tryz.func33, Tryz.ntmps33
    go_wp2_with fail
    refine wp_region_sub2 (by kernel_rfl) (by kernel_rfl) ?_
    intro cx
    repeat (first | go_big_quiet_skip | (go_big_quiet_want; go_big_quiet_op; first | go_big_quiet_on | (refine ⟨_, fun _ => rfl, ?_⟩; go_big_quiet_on)))
    refine wpQuiet_nil ?_
    rintro _ ⟨y, rfl⟩
    have Y : Hid (Below w.heap.size w y.w) := y.h
    have y0 := c0 y
    clear cx c0 d0
    generalize y.w = W at *
    go_wp2_with (first | (go_at_call 80; refine (F.out _ Y.out).mono ?_; rintro e w1 ⟨rfl, h⟩; have h' := h.symm; subst h'))
    go_ret
    exact ⟨rfl, Y.out⟩
end Go.Proofs.YtpaibmganlaaeaaGreatDoor
