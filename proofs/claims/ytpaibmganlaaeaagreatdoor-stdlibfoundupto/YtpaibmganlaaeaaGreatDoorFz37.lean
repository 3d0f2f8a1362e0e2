/- The document's gives, for single functions; no statement of the seat is proved here. -/
import Derived.Test.YtpaibmganlaaeaaGreatDoorFz28
namespace Go.Proofs.YtpaibmganlaaeaaGreatDoor
set_option linter.unusedVariables false
open Go.RowKit
set_option maxRecDepth 20000 in
set_option maxHeartbeats 1000000 in
theorem ov_75 (a : Addr) (n cap : Nat) (κ : Nat → Int) (w : World) (hk : KsAt w a n κ) (h1 : 1 ≤ n) (h2 : n ≤ 16) (hcap : n ≤ cap) (hr : ∀ i, 0 ≤ κ i ∧ κ i < 256) (hP : Pow w) :
    Calls Tryz.prog 33 #[.int .i64 75, .slice (some a) n cap] w fun e w' => e = .returned (.int .u8 (if n = 1 then gvK (11) (cvU 11 (κ 0)) else 0)) ∧ Below w.heap.size w w' := by
  have g3 : (0 : Int) < n := by omega
  have d0 : w.cell? a = some (.int .u8 (κ 0)) := by have := hk 0 (by omega); rwa [Addr.add_zero'] at this
  have c0 : ∀ x : Sub w, x.w.cell? a = some (.int .u8 (κ 0)) := fun x => by rw [x.h.cell (block_lt_of_cell d0)]; exact d0
  have F : Hid (∀ W, Below w.heap.size w W → Calls Tryz.prog 80 #[.slice (some a) n cap] W fun e w' => e = .returned (.bool (allI (n - 1) (fun i => κ (1 + i)))) ∧ w' = W) := fun W hb => func2_of a n cap κ W (hk.below hb) (by omega) h1 hcap hr
  have CV : Hid (∀ W, Below w.heap.size w W → Calls Tryz.prog 81 #[.int .u8 (κ 0), .int .u8 11] W fun e w' => e = .returned (.bool (cvU 11 (κ 0))) ∧ Below W.heap.size W w') := fun W hb => convertsR_of (κ 0) 11 W (by decide) (hr 0) (pow_below hP hb)
  by_cases nn : n = 1
  · rw [if_pos nn]
    subst nn
    clear hk hr
    generalize allI (1 - 1) (fun i => κ (1 + i)) = wh at *
    generalize cvU 11 (κ 0) = pc at *
    generalize κ 0 = k0 at *
    cases pc
    all_goals
      go_enter Tryz.func33, Tryz.ntmps33
      go_wp2_with fail
      refine wp_region_sub2 (by kernel_rfl) (by kernel_rfl) ?_
      intro cx
      repeat (first | go_big_quiet_skip | (go_big_quiet_want; go_big_quiet_op; first | go_big_quiet_on | (refine ⟨_, fun _ => rfl, ?_⟩; go_big_quiet_on)))
      refine wpQuiet_nil ?_
      rintro _ ⟨y, rfl⟩
      have Y : Hid (Below w.heap.size w y.w) := y.h
      have y0 := c0 y
      clear cx c0 d0
      generalize y.w = W at *
      go_wp2_with (first | (go_at_call 80; refine (F.out _ Y.out).mono ?_; rintro e w1 ⟨rfl, h⟩; have h' := h.symm; subst h') | (go_at_call 81; refine (CV.out _ Y.out).mono ?_; rintro e w1 ⟨rfl, h⟩; have Z : Hid (Below w.heap.size w w1) := Y.out.trans (h.mono Y.out.size); clear h))
      go_ret
      exact ⟨rfl, Z.out⟩
  · rw [if_neg nn]
    have m2 : ((n : Int) == 1) = false := by simp; omega
    clear nn
    generalize allI (n - 1) (fun i => κ (1 + i)) = wh at *
    generalize κ 0 = k0 at *
    clear hk hr
    go_enter Tryz.func33, Tryz.ntmps33
    go_wp2_with fail
    refine wp_region_sub2 (by kernel_rfl) (by kernel_rfl) ?_
    intro cx
    repeat (first | go_big_quiet_skip | (go_big_quiet_want; go_big_quiet_op; first | go_big_quiet_on | (refine ⟨_, fun _ => rfl, ?_⟩; go_big_quiet_on)))
    refine wpQuiet_nil ?_
    rintro _ ⟨y, rfl⟩
    have Y : Hid (Below w.heap.size w y.w) := y.h
    have y0 := c0 y
    clear cx c0 d0
    generalize y.w = W at *
    go_wp2_with (first | (go_at_call 80; refine (F.out _ Y.out).mono ?_; rintro e w1 ⟨rfl, h⟩; have h' := h.symm; subst h'))
    go_ret
    exact ⟨rfl, Y.out⟩
set_option maxRecDepth 20000 in
set_option maxHeartbeats 1000000 in
theorem ov_76 (a : Addr) (n cap : Nat) (κ : Nat → Int) (w : World) (hk : KsAt w a n κ) (h1 : 1 ≤ n) (h2 : n ≤ 16) (hcap : n ≤ cap) (hr : ∀ i, 0 ≤ κ i ∧ κ i < 256) (hP : Pow w) :
    Calls Tryz.prog 33 #[.int .i64 76, .slice (some a) n cap] w fun e w' => e = .returned (.int .u8 (if n = 1 then gvK (12) (cvU 12 (κ 0)) else 0)) ∧ Below w.heap.size w w' := by
  have g3 : (0 : Int) < n := by omega
  have d0 : w.cell? a = some (.int .u8 (κ 0)) := by have := hk 0 (by omega); rwa [Addr.add_zero'] at this
  have c0 : ∀ x : Sub w, x.w.cell? a = some (.int .u8 (κ 0)) := fun x => by rw [x.h.cell (block_lt_of_cell d0)]; exact d0
  have F : Hid (∀ W, Below w.heap.size w W → Calls Tryz.prog 80 #[.slice (some a) n cap] W fun e w' => e = .returned (.bool (allI (n - 1) (fun i => κ (1 + i)))) ∧ w' = W) := fun W hb => func2_of a n cap κ W (hk.below hb) (by omega) h1 hcap hr
  have CV : Hid (∀ W, Below w.heap.size w W → Calls Tryz.prog 81 #[.int .u8 (κ 0), .int .u8 12] W fun e w' => e = .returned (.bool (cvU 12 (κ 0))) ∧ Below W.heap.size W w') := fun W hb => convertsR_of (κ 0) 12 W (by decide) (hr 0) (pow_below hP hb)
  by_cases nn : n = 1
  · rw [if_pos nn]
    subst nn
    clear hk hr
    generalize allI (1 - 1) (fun i => κ (1 + i)) = wh at *
    generalize cvU 12 (κ 0) = pc at *
    generalize κ 0 = k0 at *
    cases pc
    all_goals
      go_enter Tryz.func33, Tryz.ntmps33
      go_wp2_with fail
      refine wp_region_sub2 (by kernel_rfl) (by kernel_rfl) ?_
      intro cx
      repeat (first | go_big_quiet_skip | (go_big_quiet_want; go_big_quiet_op; first | go_big_quiet_on | (refine ⟨_, fun _ => rfl, ?_⟩; go_big_quiet_on)))
      refine wpQuiet_nil ?_
      rintro _ ⟨y, rfl⟩
      have Y : Hid (Below w.heap.size w y.w) := y.h
      have y0 := c0 y
      clear cx c0 d0
      generalize y.w = W at *
      go_wp2_with (first | (go_at_call 80; refine (F.out _ Y.out).mono ?_; rintro e w1 ⟨rfl, h⟩; have h' := h.symm; subst h') | (go_at_call 81; refine (CV.out _ Y.out).mono ?_; rintro e w1 ⟨rfl, h⟩; have Z : Hid (Below w.heap.size w w1) := Y.out.trans (h.mono Y.out.size); clear h))
      go_ret
      exact ⟨rfl, Z.out⟩
  · rw [if_neg nn]
    have m2 : ((n : Int) == 1) = false := by simp; omega
    clear nn
    generalize allI (n - 1) (fun i => κ (1 + i)) = wh at *
    generalize κ 0 = k0 at *
    clear hk hr
    go_enter Tryz.func33, Tryz.ntmps33
    go_wp2_with fail
    refine wp_region_sub2 (by kernel_rfl) (by kernel_rfl) ?_
    intro cx
    repeat (first | go_big_quiet_skip | (go_big_quiet_want; go_big_quiet_op; first | go_big_quiet_on | (refine ⟨_, fun _ => rfl, ?_⟩; go_big_quiet_on)))
    refine wpQuiet_nil ?_
    rintro _ ⟨y, rfl⟩
    have Y : Hid (Below w.heap.size w y.w) := y.h
    have y0 := c0 y
    clear cx c0 d0
    generalize y.w = W at *
    go_wp2_with (first | (go_at_call 80; refine (F.out _ Y.out).mono ?_; rintro e w1 ⟨rfl, h⟩; have h' := h.symm; subst h'))
    go_ret
    exact ⟨rfl, Y.out⟩
set_option maxRecDepth 20000 in
set_option maxHeartbeats 1000000 in
theorem ov_77 (a : Addr) (n cap : Nat) (κ : Nat → Int) (w : World) (hk : KsAt w a n κ) (h1 : 1 ≤ n) (h2 : n ≤ 16) (hcap : n ≤ cap) (hr : ∀ i, 0 ≤ κ i ∧ κ i < 256) (hP : Pow w) :
    Calls Tryz.prog 33 #[.int .i64 77, .slice (some a) n cap] w fun e w' => e = .returned (.int .u8 (if n = 1 then gvK (13) (cvU 13 (κ 0)) else 0)) ∧ Below w.heap.size w w' := by
  have g3 : (0 : Int) < n := by omega
  have d0 : w.cell? a = some (.int .u8 (κ 0)) := by have := hk 0 (by omega); rwa [Addr.add_zero'] at this
  have c0 : ∀ x : Sub w, x.w.cell? a = some (.int .u8 (κ 0)) := fun x => by rw [x.h.cell (block_lt_of_cell d0)]; exact d0
  have F : Hid (∀ W, Below w.heap.size w W → Calls Tryz.prog 80 #[.slice (some a) n cap] W fun e w' => e = .returned (.bool (allI (n - 1) (fun i => κ (1 + i)))) ∧ w' = W) := fun W hb => func2_of a n cap κ W (hk.below hb) (by omega) h1 hcap hr
  have CV : Hid (∀ W, Below w.heap.size w W → Calls Tryz.prog 81 #[.int .u8 (κ 0), .int .u8 13] W fun e w' => e = .returned (.bool (cvU 13 (κ 0))) ∧ Below W.heap.size W w') := fun W hb => convertsR_of (κ 0) 13 W (by decide) (hr 0) (pow_below hP hb)
  by_cases nn : n = 1
  · rw [if_pos nn]
    subst nn
    clear hk hr
    generalize allI (1 - 1) (fun i => κ (1 + i)) = wh at *
    generalize cvU 13 (κ 0) = pc at *
    generalize κ 0 = k0 at *
    cases pc
    all_goals
      go_enter Tryz.func33, Tryz.ntmps33
      go_wp2_with fail
      refine wp_region_sub2 (by kernel_rfl) (by kernel_rfl) ?_
      intro cx
      repeat (first | go_big_quiet_skip | (go_big_quiet_want; go_big_quiet_op; first | go_big_quiet_on | (refine ⟨_, fun _ => rfl, ?_⟩; go_big_quiet_on)))
      refine wpQuiet_nil ?_
      rintro _ ⟨y, rfl⟩
      have Y : Hid (Below w.heap.size w y.w) := y.h
      have y0 := c0 y
      clear cx c0 d0
      generalize y.w = W at *
      go_wp2_with (first | (go_at_call 80; refine (F.out _ Y.out).mono ?_; rintro e w1 ⟨rfl, h⟩; have h' := h.symm; subst h') | (go_at_call 81; refine (CV.out _ Y.out).mono ?_; rintro e w1 ⟨rfl, h⟩; have Z : Hid (Below w.heap.size w w1) := Y.out.trans (h.mono Y.out.size); clear h))
      go_ret
      exact ⟨rfl, Z.out⟩
  · rw [if_neg nn]
    have m2 : ((n : Int) == 1) = false := by simp; omega
    clear nn
    generalize allI (n - 1) (fun i => κ (1 + i)) = wh at *
    generalize κ 0 = k0 at *
    clear hk hr
    go_enter Tryz.func33, Tryz.ntmps33
    go_wp2_with fail
    refine wp_region_sub2 (by kernel_rfl) (by kernel_rfl) ?_
    intro cx
    repeat (first | go_big_quiet_skip | (go_big_quiet_want; go_big_quiet_op; first | go_big_quiet_on | (refine ⟨_, fun _ => rfl, ?_⟩; go_big_quiet_on)))
    refine wpQuiet_nil ?_
    rintro _ ⟨y, rfl⟩
    have Y : Hid (Below w.heap.size w y.w) := y.h
    have y0 := c0 y
    clear cx c0 d0
    generalize y.w = W at *
    go_wp2_with (first | (go_at_call 80; refine (F.out _ Y.out).mono ?_; rintro e w1 ⟨rfl, h⟩; have h' := h.symm; subst h'))
    go_ret
    exact ⟨rfl, Y.out⟩
set_option maxRecDepth 20000 in
set_option maxHeartbeats 1000000 in
theorem ov_78 (a : Addr) (n cap : Nat) (κ : Nat → Int) (w : World) (hk : KsAt w a n κ) (h1 : 1 ≤ n) (h2 : n ≤ 16) (hcap : n ≤ cap) (hr : ∀ i, 0 ≤ κ i ∧ κ i < 256) (hP : Pow w) :
    Calls Tryz.prog 33 #[.int .i64 78, .slice (some a) n cap] w fun e w' => e = .returned (.int .u8 (if n = 1 then gvK (14) (cvU 14 (κ 0)) else 0)) ∧ Below w.heap.size w w' := by
  have g3 : (0 : Int) < n := by omega
  have d0 : w.cell? a = some (.int .u8 (κ 0)) := by have := hk 0 (by omega); rwa [Addr.add_zero'] at this
  have c0 : ∀ x : Sub w, x.w.cell? a = some (.int .u8 (κ 0)) := fun x => by rw [x.h.cell (block_lt_of_cell d0)]; exact d0
  have F : Hid (∀ W, Below w.heap.size w W → Calls Tryz.prog 80 #[.slice (some a) n cap] W fun e w' => e = .returned (.bool (allI (n - 1) (fun i => κ (1 + i)))) ∧ w' = W) := fun W hb => func2_of a n cap κ W (hk.below hb) (by omega) h1 hcap hr
  have CV : Hid (∀ W, Below w.heap.size w W → Calls Tryz.prog 81 #[.int .u8 (κ 0), .int .u8 14] W fun e w' => e = .returned (.bool (cvU 14 (κ 0))) ∧ Below W.heap.size W w') := fun W hb => convertsR_of (κ 0) 14 W (by decide) (hr 0) (pow_below hP hb)
  by_cases nn : n = 1
  · rw [if_pos nn]
    subst nn
    clear hk hr
    generalize allI (1 - 1) (fun i => κ (1 + i)) = wh at *
    generalize cvU 14 (κ 0) = pc at *
    generalize κ 0 = k0 at *
    cases pc
    all_goals
      go_enter Tryz.func33, Tryz.ntmps33
      go_wp2_with fail
      refine wp_region_sub2 (by kernel_rfl) (by kernel_rfl) ?_
      intro cx
      repeat (first | go_big_quiet_skip | (go_big_quiet_want; go_big_quiet_op; first | go_big_quiet_on | (refine ⟨_, fun _ => rfl, ?_⟩; go_big_quiet_on)))
      refine wpQuiet_nil ?_
      rintro _ ⟨y, rfl⟩
      have Y : Hid (Below w.heap.size w y.w) := y.h
      have y0 := c0 y
      clear cx c0 d0
      generalize y.w = W at *
      go_wp2_with (first | (go_at_call 80; refine (F.out _ Y.out).mono ?_; rintro e w1 ⟨rfl, h⟩; have h' := h.symm; subst h') | (go_at_call 81; refine (CV.out _ Y.out).mono ?_; rintro e w1 ⟨rfl, h⟩; have Z : Hid (Below w.heap.size w w1) := Y.out.trans (h.mono Y.out.size); clear h))
      go_ret
      exact ⟨rfl, Z.out⟩
  · rw [if_neg nn]
    have m2 : ((n : Int) == 1) = false := by simp; omega
    clear nn
    generalize allI (n - 1) (fun i => κ (1 + i)) = wh at *
    generalize κ 0 = k0 at *
    clear hk hr
    go_enter Tryz.func33, Tryz.ntmps33
    go_wp2_with fail
    refine wp_region_sub2 (by kernel_rfl) (by kernel_rfl) ?_
    intro cx
    repeat (first | go_big_quiet_skip | (go_big_quiet_want; go_big_quiet_op; first | go_big_quiet_on | (refine ⟨_, fun _ => rfl, ?_⟩; go_big_quiet_on)))
    refine wpQuiet_nil ?_
    rintro _ ⟨y, rfl⟩
    have Y : Hid (Below w.heap.size w y.w) := y.h
    have y0 := c0 y
    clear cx c0 d0
    generalize y.w = W at *
    go_wp2_with (first | (go_at_call 80; refine (F.out _ Y.out).mono ?_; rintro e w1 ⟨rfl, h⟩; have h' := h.symm; subst h'))
    go_ret
    exact ⟨rfl, Y.out⟩
set_option maxRecDepth 20000 in
set_option maxHeartbeats 1000000 in
theorem ov_79 (a : Addr) (n cap : Nat) (κ : Nat → Int) (w : World) (hk : KsAt w a n κ) (h1 : 1 ≤ n) (h2 : n ≤ 16) (hcap : n ≤ cap) (hr : ∀ i, 0 ≤ κ i ∧ κ i < 256) (hP : Pow w) :
    Calls Tryz.prog 33 #[.int .i64 79, .slice (some a) n cap] w fun e w' => e = .returned (.int .u8 (if n = 1 then gvK (15) (cvU 15 (κ 0)) else 0)) ∧ Below w.heap.size w w' := by
  have g3 : (0 : Int) < n := by omega
  have d0 : w.cell? a = some (.int .u8 (κ 0)) := by have := hk 0 (by omega); rwa [Addr.add_zero'] at this
  have c0 : ∀ x : Sub w, x.w.cell? a = some (.int .u8 (κ 0)) := fun x => by rw [x.h.cell (block_lt_of_cell d0)]; exact d0
  have F : Hid (∀ W, Below w.heap.size w W → Calls Tryz.prog 80 #[.slice (some a) n cap] W fun e w' => e = .returned (.bool (allI (n - 1) (fun i => κ (1 + i)))) ∧ w' = W) := fun W hb => func2_of a n cap κ W (hk.below hb) (by omega) h1 hcap hr
  have CV : Hid (∀ W, Below w.heap.size w W → Calls Tryz.prog 81 #[.int .u8 (κ 0), .int .u8 15] W fun e w' => e = .returned (.bool (cvU 15 (κ 0))) ∧ Below W.heap.size W w') := fun W hb => convertsR_of (κ 0) 15 W (by decide) (hr 0) (pow_below hP hb)
  by_cases nn : n = 1
  · rw [if_pos nn]
    subst nn
    clear hk hr
    generalize allI (1 - 1) (fun i => κ (1 + i)) = wh at *
    generalize cvU 15 (κ 0) = pc at *
    generalize κ 0 = k0 at *
    cases pc
    all_goals
      go_enter Tryz.func33, Tryz.ntmps33
      go_wp2_with fail
      refine wp_region_sub2 (by kernel_rfl) (by kernel_rfl) ?_
      intro cx
      repeat (first | go_big_quiet_skip | (go_big_quiet_want; go_big_quiet_op; first | go_big_quiet_on | (refine ⟨_, fun _ => rfl, ?_⟩; go_big_quiet_on)))
      refine wpQuiet_nil ?_
      rintro _ ⟨y, rfl⟩
      have Y : Hid (Below w.heap.size w y.w) := y.h
      have y0 := c0 y
      clear cx c0 d0
      generalize y.w = W at *
      go_wp2_with (first | (go_at_call 80; refine (F.out _ Y.out).mono ?_; rintro e w1 ⟨rfl, h⟩; have h' := h.symm; subst h') | (go_at_call 81; refine (CV.out _ Y.out).mono ?_; rintro e w1 ⟨rfl, h⟩; have Z : Hid (Below w.heap.size w w1) := Y.out.trans (h.mono Y.out.size); clear h))
      go_ret
      exact ⟨rfl, Z.out⟩
  · rw [if_neg nn]
    have m2 : ((n : Int) == 1) = false := by simp; omega
    clear nn
    generalize allI (n - 1) (fun i => κ (1 + i)) = wh at *
    generalize κ 0 = k0 at *
    clear hk hr
    go_enter Tryz.func33, Tryz.ntmps33
    go_wp2_with fail
    refine wp_region_sub2 (by kernel_rfl) (by kernel_rfl) ?_
    intro cx
    repeat (first | go_big_quiet_skip | (go_big_quiet_want; go_big_quiet_op; first | go_big_quiet_on | (refine ⟨_, fun _ => rfl, ?_⟩; go_big_quiet_on)))
    refine wpQuiet_nil ?_
    rintro _ ⟨y, rfl⟩
    have Y : Hid (Below w.heap.size w y.w) := y.h
    have y0 := c0 y
    clear cx c0 d0
    generalize y.w = W at *
    go_wp2_with (first | (go_at_call 80; refine (F.out _ Y.out).mono ?_; rintro e w1 ⟨rfl, h⟩; have h' := h.symm; subst h'))
    go_ret
    exact ⟨rfl, Y.out⟩
set_option maxRecDepth 20000 in
set_option maxHeartbeats 1000000 in
theorem ov_80 (a : Addr) (n cap : Nat) (κ : Nat → Int) (w : World) (hk : KsAt w a n κ) (h1 : 1 ≤ n) (h2 : n ≤ 16) (hcap : n ≤ cap) (hr : ∀ i, 0 ≤ κ i ∧ κ i < 256) (hP : Pow w) :
    Calls Tryz.prog 33 #[.int .i64 80, .slice (some a) n cap] w fun e w' => e = .returned (.int .u8 (if n = 1 then gvK (16) (cvU 16 (κ 0)) else 0)) ∧ Below w.heap.size w w' := by
  have g3 : (0 : Int) < n := by omega
  have d0 : w.cell? a = some (.int .u8 (κ 0)) := by have := hk 0 (by omega); rwa [Addr.add_zero'] at this
  have c0 : ∀ x : Sub w, x.w.cell? a = some (.int .u8 (κ 0)) := fun x => by rw [x.h.cell (block_lt_of_cell d0)]; exact d0
  have F : Hid (∀ W, Below w.heap.size w W → Calls Tryz.prog 80 #[.slice (some a) n cap] W fun e w' => e = .returned (.bool (allI (n - 1) (fun i => κ (1 + i)))) ∧ w' = W) := fun W hb => func2_of a n cap κ W (hk.below hb) (by omega) h1 hcap hr
  have CV : Hid (∀ W, Below w.heap.size w W → Calls Tryz.prog 81 #[.int .u8 (κ 0), .int .u8 16] W fun e w' => e = .returned (.bool (cvU 16 (κ 0))) ∧ Below W.heap.size W w') := fun W hb => convertsR_of (κ 0) 16 W (by decide) (hr 0) (pow_below hP hb)
  by_cases nn : n = 1
  · rw [if_pos nn]
    subst nn
    clear hk hr
    generalize allI (1 - 1) (fun i => κ (1 + i)) = wh at *
    generalize cvU 16 (κ 0) = pc at *
    generalize κ 0 = k0 at *
    cases pc
    all_goals
      go_enter Tryz.func33, Tryz.ntmps33
      go_wp2_with fail
      refine wp_region_sub2 (by kernel_rfl) (by kernel_rfl) ?_
      intro cx
      repeat (first | go_big_quiet_skip | (go_big_quiet_want; go_big_quiet_op; first | go_big_quiet_on | (refine ⟨_, fun _ => rfl, ?_⟩; go_big_quiet_on)))
      refine wpQuiet_nil ?_
      rintro _ ⟨y, rfl⟩
      have Y : Hid (Below w.heap.size w y.w) := y.h
      have y0 := c0 y
      clear cx c0 d0
      generalize y.w = W at *
      go_wp2_with (first | (go_at_call 80; refine (F.out _ Y.out).mono ?_; rintro e w1 ⟨rfl, h⟩; have h' := h.symm; subst h') | (go_at_call 81; refine (CV.out _ Y.out).mono ?_; rintro e w1 ⟨rfl, h⟩; have Z : Hid (Below w.heap.size w w1) := Y.out.trans (h.mono Y.out.size); clear h))
      go_ret
      exact ⟨rfl, Z.out⟩
  · rw [if_neg nn]
    have m2 : ((n : Int) == 1) = false := by simp; omega
    clear nn
    generalize allI (n - 1) (fun i => κ (1 + i)) = wh at *
    generalize κ 0 = k0 at *
    clear hk hr
    go_enter Tryz.func33, Tryz.ntmps33
    go_wp2_with fail
    refine wp_region_sub2 (by kernel_rfl) (by kernel_rfl) ?_
    intro cx
    repeat (first | go_big_quiet_skip | (go_big_quiet_want; go_big_quiet_op; first | go_big_quiet_on | (refine ⟨_, fun _ => rfl, ?_⟩; go_big_quiet_on)))
    refine wpQuiet_nil ?_
    rintro _ ⟨y, rfl⟩
    have Y : Hid (Below w.heap.size w y.w) := y.h
    have y0 := c0 y
    clear cx c0 d0
    generalize y.w = W at *
    go_wp2_with (first | (go_at_call 80; refine (F.out _ Y.out).mono ?_; rintro e w1 ⟨rfl, h⟩; have h' := h.symm; subst h'))
    go_ret
    exact ⟨rfl, Y.out⟩
set_option maxRecDepth 20000 in
set_option maxHeartbeats 1000000 in
theorem ov_81 (a : Addr) (n cap : Nat) (κ : Nat → Int) (w : World) (hk : KsAt w a n κ) (h1 : 1 ≤ n) (h2 : n ≤ 16) (hcap : n ≤ cap) (hr : ∀ i, 0 ≤ κ i ∧ κ i < 256) (hP : Pow w) :
    Calls Tryz.prog 33 #[.int .i64 81, .slice (some a) n cap] w fun e w' => e = .returned (.int .u8 (if n = 1 then gvK (17) (cvU 17 (κ 0)) else 0)) ∧ Below w.heap.size w w' := by
  have g3 : (0 : Int) < n := by omega
  have d0 : w.cell? a = some (.int .u8 (κ 0)) := by have := hk 0 (by omega); rwa [Addr.add_zero'] at this
  have c0 : ∀ x : Sub w, x.w.cell? a = some (.int .u8 (κ 0)) := fun x => by rw [x.h.cell (block_lt_of_cell d0)]; exact d0
  have F : Hid (∀ W, Below w.heap.size w W → Calls Tryz.prog 80 #[.slice (some a) n cap] W fun e w' => e = .returned (.bool (allI (n - 1) (fun i => κ (1 + i)))) ∧ w' = W) := fun W hb => func2_of a n cap κ W (hk.below hb) (by omega) h1 hcap hr
  have CV : Hid (∀ W, Below w.heap.size w W → Calls Tryz.prog 81 #[.int .u8 (κ 0), .int .u8 17] W fun e w' => e = .returned (.bool (cvU 17 (κ 0))) ∧ Below W.heap.size W w') := fun W hb => convertsR_of (κ 0) 17 W (by decide) (hr 0) (pow_below hP hb)
  by_cases nn : n = 1
  · rw [if_pos nn]
    subst nn
    clear hk hr
    generalize allI (1 - 1) (fun i => κ (1 + i)) = wh at *
    generalize cvU 17 (κ 0) = pc at *
    generalize κ 0 = k0 at *
    cases pc
    all_goals
      go_enter Tryz.func33, Tryz.ntmps33
      go_wp2_with fail
      refine wp_region_sub2 (by kernel_rfl) (by kernel_rfl) ?_
      intro cx
      repeat (first | go_big_quiet_skip | (go_big_quiet_want; go_big_quiet_op; first | go_big_quiet_on | (refine ⟨_, fun _ => rfl, ?_⟩; go_big_quiet_on)))
      refine wpQuiet_nil ?_
      rintro _ ⟨y, rfl⟩
      have Y : Hid (Below w.heap.size w y.w) := y.h
      have y0 := c0 y
      clear cx c0 d0
      generalize y.w = W at *
      go_wp2_with (first | (go_at_call 80; refine (F.out _ Y.out).mono ?_; rintro e w1 ⟨rfl, h⟩; have h' := h.symm; subst h') | (go_at_call 81; refine (CV.out _ Y.out).mono ?_; rintro e w1 ⟨rfl, h⟩; have Z : Hid (Below w.heap.size w w1) := Y.out.trans (h.mono Y.out.size); clear h))
      go_ret
      exact ⟨rfl, Z.out⟩
  · rw [if_neg nn]
    have m2 : ((n : Int) == 1) = false := by simp; omega
    clear nn
    generalize allI (n - 1) (fun i => κ (1 + i)) = wh at *
    generalize κ 0 = k0 at *
    clear hk hr
    go_enter Tryz.func33, Tryz.ntmps33
    go_wp2_with fail
    refine wp_region_sub2 (by kernel_rfl) (by kernel_rfl) ?_
    intro cx
    repeat (first | go_big_quiet_skip | (go_big_quiet_want; go_big_quiet_op; first | go_big_quiet_on | (refine ⟨_, fun _ => rfl, ?_⟩; go_big_quiet_on)))
    refine wpQuiet_nil ?_
    rintro _ ⟨y, rfl⟩
    have Y : Hid (Below w.heap.size w y.w) := y.h
    have y0 := c0 y
    clear cx c0 d0
    generalize y.w = W at *
    go_wp2_with (first | (go_at_call 80; refine (F.out _ Y.out).mono ?_; rintro e w1 ⟨rfl, h⟩; have h' := h.symm; subst h'))
    go_ret
    exact ⟨rfl, Y.out⟩
set_option maxRecDepth 20000 in
set_option maxHeartbeats 1000000 in
theorem ov_82 (a : Addr) (n cap : Nat) (κ : Nat → Int) (w : World) (hk : KsAt w a n κ) (h1 : 1 ≤ n) (h2 : n ≤ 16) (hcap : n ≤ cap) (hr : ∀ i, 0 ≤ κ i ∧ κ i < 256) (hP : Pow w) :
    Calls Tryz.prog 33 #[.int .i64 82, .slice (some a) n cap] w fun e w' => e = .returned (.int .u8 (if n = 1 then gvK (18) (cvU 18 (κ 0)) else 0)) ∧ Below w.heap.size w w' := by
  have g3 : (0 : Int) < n := by omega
  have d0 : w.cell? a = some (.int .u8 (κ 0)) := by have := hk 0 (by omega); rwa [Addr.add_zero'] at this
  have c0 : ∀ x : Sub w, x.w.cell? a = some (.int .u8 (κ 0)) := fun x => by rw [x.h.cell (block_lt_of_cell d0)]; exact d0
  have F : Hid (∀ W, Below w.heap.size w W → Calls Tryz.prog 80 #[.slice (some a) n cap] W fun e w' => e = .returned (.bool (allI (n - 1) (fun i => κ (1 + i)))) ∧ w' = W) := fun W hb => func2_of a n cap κ W (hk.below hb) (by omega) h1 hcap hr
  have CV : Hid (∀ W, Below w.heap.size w W → Calls Tryz.prog 81 #[.int .u8 (κ 0), .int .u8 18] W fun e w' => e = .returned (.bool (cvU 18 (κ 0))) ∧ Below W.heap.size W w') := fun W hb => convertsR_of (κ 0) 18 W (by decide) (hr 0) (pow_below hP hb)
  by_cases nn : n = 1
  · rw [if_pos nn]
    subst nn
    clear hk hr
    generalize allI (1 - 1) (fun i => κ (1 + i)) = wh at *
    generalize cvU 18 (κ 0) = pc at *
    generalize κ 0 = k0 at *
    cases pc
    all_goals
      go_enter Tryz.func33, Tryz.ntmps33
      go_wp2_with fail
      refine wp_region_sub2 (by kernel_rfl) (by kernel_rfl) ?_
      intro cx
      repeat (first | go_big_quiet_skip | (go_big_quiet_want; go_big_quiet_op; first | go_big_quiet_on | (refine ⟨_, fun _ => rfl, ?_⟩; go_big_quiet_on)))
      refine wpQuiet_nil ?_
      rintro _ ⟨y, rfl⟩
      have Y : Hid (Below w.heap.size w y.w) := y.h
      have y0 := c0 y
      clear cx c0 d0
      generalize y.w = W at *
      go_wp2_with (first | (go_at_call 80; refine (F.out _ Y.out).mono ?_; rintro e w1 ⟨rfl, h⟩; have h' := h.symm; subst h') | (go_at_call 81; refine (CV.out _ Y.out).mono ?_; rintro e w1 ⟨rfl, h⟩; have Z : Hid (Below w.heap.size w w1) := Y.out.trans (h.mono Y.out.size); clear h))
      go_ret
      exact ⟨rfl, Z.out⟩
  · rw [if_neg nn]
    have m2 : ((n : Int) == 1) = false := by simp; omega
    clear nn
    generalize allI (n - 1) (fun i => κ (1 + i)) = wh at *
    generalize κ 0 = k0 at *
    clear hk hr
    go_enter Tryz.func33, Tryz.ntmps33
    go_wp2_with fail
    refine wp_region_sub2 (by kernel_rfl) (by kernel_rfl) ?_
    intro cx
    repeat (first | go_big_quiet_skip | (go_big_quiet_want; go_big_quiet_op; first | go_big_quiet_on | (refine ⟨_, fun _ => rfl, ?_⟩; go_big_quiet_on)))
    refine wpQuiet_nil ?_
    rintro _ ⟨y, rfl⟩
    have Y : Hid (Below w.heap.size w y.w) := y.h
    have y0 := c0 y
    clear cx c0 d0
    generalize y.w = W at *
    go_wp2_with (first | (go_at_call 80; refine (F.out _ Y.out).mono ?_; rintro e w1 ⟨rfl, h⟩; have h' := h.symm; subst h'))
    go_ret
    exact ⟨rfl, Y.out⟩
set_option maxRecDepth 20000 in
set_option maxHeartbeats 1000000 in
theorem ov_83 (a : Addr) (n cap : Nat) (κ : Nat → Int) (w : World) (hk : KsAt w a n κ) (h1 : 1 ≤ n) (h2 : n ≤ 16) (hcap : n ≤ cap) (hr : ∀ i, 0 ≤ κ i ∧ κ i < 256) (hP : Pow w) :
    Calls Tryz.prog 33 #[.int .i64 83, .slice (some a) n cap] w fun e w' => e = .returned (.int .u8 (if n = 1 then gvK (19) (cvU 19 (κ 0)) else 0)) ∧ Below w.heap.size w w' := by
  have g3 : (0 : Int) < n := by omega
  have d0 : w.cell? a = some (.int .u8 (κ 0)) := by have := hk 0 (by omega); rwa [Addr.add_zero'] at this
  have c0 : ∀ x : Sub w, x.w.cell? a = some (.int .u8 (κ 0)) := fun x => by rw [x.h.cell (block_lt_of_cell d0)]; exact d0
  have F : Hid (∀ W, Below w.heap.size w W → Calls Tryz.prog 80 #[.slice (some a) n cap] W fun e w' => e = .returned (.bool (allI (n - 1) (fun i => κ (1 + i)))) ∧ w' = W) := fun W hb => func2_of a n cap κ W (hk.below hb) (by omega) h1 hcap hr
  have CV : Hid (∀ W, Below w.heap.size w W → Calls Tryz.prog 81 #[.int .u8 (κ 0), .int .u8 19] W fun e w' => e = .returned (.bool (cvU 19 (κ 0))) ∧ Below W.heap.size W w') := fun W hb => convertsR_of (κ 0) 19 W (by decide) (hr 0) (pow_below hP hb)
  by_cases nn : n = 1
  · rw [if_pos nn]
    subst nn
    clear hk hr
    generalize allI (1 - 1) (fun i => κ (1 + i)) = wh at *
    generalize cvU 19 (κ 0) = pc at *
    generalize κ 0 = k0 at *
    cases pc
    all_goals
      go_enter Tryz.func33, Tryz.ntmps33
      go_wp2_with fail
      refine wp_region_sub2 (by kernel_rfl) (by kernel_rfl) ?_
      intro cx
      repeat (first | go_big_quiet_skip | (go_big_quiet_want; go_big_quiet_op; first | go_big_quiet_on | (refine ⟨_, fun _ => rfl, ?_⟩; go_big_quiet_on)))
      refine wpQuiet_nil ?_
      rintro _ ⟨y, rfl⟩
      have Y : Hid (Below w.heap.size w y.w) := y.h
      have y0 := c0 y
      clear cx c0 d0
      generalize y.w = W at *
      go_wp2_with (first | (go_at_call 80; refine (F.out _ Y.out).mono ?_; rintro e w1 ⟨rfl, h⟩; have h' := h.symm; subst h') | (go_at_call 81; refine (CV.out _ Y.out).mono ?_; rintro e w1 ⟨rfl, h⟩; have Z : Hid (Below w.heap.size w w1) := Y.out.trans (h.mono Y.out.size); clear h))
      go_ret
      exact ⟨rfl, Z.out⟩
  · rw [if_neg nn]
    have m2 : ((n : Int) == 1) = false := by simp; omega
    clear nn
    generalize allI (n - 1) (fun i => κ (1 + i)) = wh at *
    generalize κ 0 = k0 at *
    clear hk hr
    go_enter Tryz.func33, Tryz.ntmps33
    go_wp2_with fail
    refine wp_region_sub2 (by kernel_rfl) (by kernel_rfl) ?_
    intro cx
    repeat (first | go_big_quiet_skip | (go_big_quiet_want; go_big_quiet_op; first | go_big_quiet_on | (refine ⟨_, fun _ => rfl, ?_⟩; go_big_quiet_on)))
    refine wpQuiet_nil ?_
    rintro _ ⟨y, rfl⟩
    have Y : Hid (Below w.heap.size w y.w) := y.h
    have y0 := c0 y
    clear cx c0 d0
    generalize y.w = W at *
    go_wp2_with (first | (go_at_call 80; refine (F.out _ Y.out).mono ?_; rintro e w1 ⟨rfl, h⟩; have h' := h.symm; subst h'))
    go_ret
    exact ⟨rfl, Y.out⟩
end Go.Proofs.YtpaibmganlaaeaaGreatDoor
