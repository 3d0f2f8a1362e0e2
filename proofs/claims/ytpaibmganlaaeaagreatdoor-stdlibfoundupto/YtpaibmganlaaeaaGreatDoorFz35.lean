/- The document's gives, for single functions; no statement of the seat is proved here. -/
import Derived.Test.YtpaibmganlaaeaaGreatDoorFz28
namespace Go.Proofs.YtpaibmganlaaeaaGreatDoor
set_option linter.unusedVariables false
open Go.RowKit
set_option maxRecDepth 20000 in
set_option maxHeartbeats 1000000 in
theorem ov_32 (a : Addr) (n cap : Nat) (κ : Nat → Int) (w : World) (hk : KsAt w a n κ) (h1 : 1 ≤ n) (h2 : n ≤ 16) (hcap : n ≤ cap) (hr : ∀ i, 0 ≤ κ i ∧ κ i < 256) :
    Calls Tryz.prog 33 #[.int .i64 32, .slice (some a) n cap] w fun e w' => e = .returned (.int .u8 (if n = 3 then gvK (κ 0) (κ 0 == 19 && κ 1 == κ 0 && intK (κ 2)) else 0)) ∧ Below w.heap.size w w' := by
  have g3 : (0 : Int) < n := by omega
  have d0 : w.cell? a = some (.int .u8 (κ 0)) := by have := hk 0 (by omega); rwa [Addr.add_zero'] at this
  have c0 : ∀ x : Sub w, x.w.cell? a = some (.int .u8 (κ 0)) := fun x => by rw [x.h.cell (block_lt_of_cell d0)]; exact d0
  have F : Hid (∀ W, Below w.heap.size w W → Calls Tryz.prog 80 #[.slice (some a) n cap] W fun e w' => e = .returned (.bool (allI (n - 1) (fun i => κ (1 + i)))) ∧ w' = W) := fun W hb => func2_of a n cap κ W (hk.below hb) (by omega) h1 hcap hr
  have I2 : Hid (∀ w, Calls Tryz.prog 32 #[.int .u8 (κ 2)] w fun e w' => e = .returned (.bool (intK (κ 2))) ∧ w' = w) := fun w => IntR_is _ w (hr 2)
  by_cases nn : n = 3
  · rw [if_pos nn]
    subst nn
    have d1 : w.cell? ⟨a.block, a.off + 1, none⟩ = some (.int .u8 (κ 1)) := hk 1 (by omega)
    have c1 : ∀ x : Sub w, x.w.cell? ⟨a.block, a.off + 1, none⟩ = some (.int .u8 (κ 1)) := fun x => by rw [x.h.cell (p := ⟨a.block, a.off + 1, none⟩) (block_lt_of_cell d1)]; exact d1
    have d2 : w.cell? ⟨a.block, a.off + 2, none⟩ = some (.int .u8 (κ 2)) := hk 2 (by omega)
    have c2 : ∀ x : Sub w, x.w.cell? ⟨a.block, a.off + 2, none⟩ = some (.int .u8 (κ 2)) := fun x => by rw [x.h.cell (p := ⟨a.block, a.off + 2, none⟩) (block_lt_of_cell d2)]; exact d2
    clear hk hr
    generalize allI (3 - 1) (fun i => κ (1 + i)) = wh at *
    generalize κ 2 = k2 at *
    generalize κ 1 = k1 at *
    generalize κ 0 = k0 at *
    obtain ⟨b0, eb0⟩ : ∃ b, (k0 == 19) = b := ⟨_, rfl⟩
    rw [eb0]
    obtain ⟨b1, eb1⟩ : ∃ b, (k1 == k0) = b := ⟨_, rfl⟩
    rw [eb1]
    generalize intK (k2) = b2 at *
    cases b0 <;> cases b1 <;> cases b2
    all_goals
      go_enter Tryz.func33, Tryz.ntmps33
      go_wp2_with fail
      refine wp_region_sub2 (by kernel_rfl) (by kernel_rfl) ?_
      intro cx
      repeat (first | go_big_quiet_skip | (go_big_quiet_want; go_big_quiet_op; first | go_big_quiet_on | (refine ⟨_, fun _ => rfl, ?_⟩; go_big_quiet_on)))
      refine wpQuiet_nil ?_
      rintro _ ⟨y, rfl⟩
      have Y : Hid (Below w.heap.size w y.w) := y.h
      have y0 := c0 y
      have y1 := c1 y
      have y2 := c2 y
      clear cx c0 d0 c1 d1 c2 d2
      generalize y.w = W at *
      go_wp2_with (first | (go_at_call 80; refine (F.out _ Y.out).mono ?_; rintro e w1 ⟨rfl, h⟩; have h' := h.symm; subst h') | (go_at_call 32; with_reducible refine (I2.out _).mono ?_; rintro e w1 ⟨rfl, h⟩; have h' := h.symm; subst h'))
      go_ret
      exact ⟨rfl, Y.out⟩
  · rw [if_neg nn]
    have m2 : ((n : Int) == 3) = false := by simp; omega
    clear nn
    generalize allI (n - 1) (fun i => κ (1 + i)) = wh at *
    generalize κ 0 = k0 at *
    clear hk hr
    go_enter Tryz.func33, Tryz.ntmps33
    go_wp2_with fail
    refine wp_region_sub2 (by kernel_rfl) (by kernel_rfl) ?_
    intro cx
    repeat (first | go_big_quiet_skip | (go_big_quiet_want; go_big_quiet_op; first | go_big_quiet_on | (refine ⟨_, fun _ => rfl, ?_⟩; go_big_quiet_on)))
    refine wpQuiet_nil ?_
    rintro _ ⟨y, rfl⟩
    have Y : Hid (Below w.heap.size w y.w) := y.h
    have y0 := c0 y
    clear cx c0 d0
    generalize y.w = W at *
    go_wp2_with (first | (go_at_call 80; refine (F.out _ Y.out).mono ?_; rintro e w1 ⟨rfl, h⟩; have h' := h.symm; subst h'))
    go_ret
    exact ⟨rfl, Y.out⟩
set_option maxRecDepth 20000 in
set_option maxHeartbeats 1000000 in
theorem ov_34 (a : Addr) (n cap : Nat) (κ : Nat → Int) (w : World) (hk : KsAt w a n κ) (h1 : 1 ≤ n) (h2 : n ≤ 16) (hcap : n ≤ cap) (hr : ∀ i, 0 ≤ κ i ∧ κ i < 256) :
    Calls Tryz.prog 33 #[.int .i64 34, .slice (some a) n cap] w fun e w' => e = .returned (.int .u8 (if n = 4 then gvK (κ 0) (κ 0 == 19 && κ 1 == κ 0 && intK (κ 2) && intK (κ 3)) else 0)) ∧ Below w.heap.size w w' := by
  have g3 : (0 : Int) < n := by omega
  have d0 : w.cell? a = some (.int .u8 (κ 0)) := by have := hk 0 (by omega); rwa [Addr.add_zero'] at this
  have c0 : ∀ x : Sub w, x.w.cell? a = some (.int .u8 (κ 0)) := fun x => by rw [x.h.cell (block_lt_of_cell d0)]; exact d0
  have F : Hid (∀ W, Below w.heap.size w W → Calls Tryz.prog 80 #[.slice (some a) n cap] W fun e w' => e = .returned (.bool (allI (n - 1) (fun i => κ (1 + i)))) ∧ w' = W) := fun W hb => func2_of a n cap κ W (hk.below hb) (by omega) h1 hcap hr
  have I2 : Hid (∀ w, Calls Tryz.prog 32 #[.int .u8 (κ 2)] w fun e w' => e = .returned (.bool (intK (κ 2))) ∧ w' = w) := fun w => IntR_is _ w (hr 2)
  have I3 : Hid (∀ w, Calls Tryz.prog 32 #[.int .u8 (κ 3)] w fun e w' => e = .returned (.bool (intK (κ 3))) ∧ w' = w) := fun w => IntR_is _ w (hr 3)
  by_cases nn : n = 4
  · rw [if_pos nn]
    subst nn
    have d1 : w.cell? ⟨a.block, a.off + 1, none⟩ = some (.int .u8 (κ 1)) := hk 1 (by omega)
    have c1 : ∀ x : Sub w, x.w.cell? ⟨a.block, a.off + 1, none⟩ = some (.int .u8 (κ 1)) := fun x => by rw [x.h.cell (p := ⟨a.block, a.off + 1, none⟩) (block_lt_of_cell d1)]; exact d1
    have d2 : w.cell? ⟨a.block, a.off + 2, none⟩ = some (.int .u8 (κ 2)) := hk 2 (by omega)
    have c2 : ∀ x : Sub w, x.w.cell? ⟨a.block, a.off + 2, none⟩ = some (.int .u8 (κ 2)) := fun x => by rw [x.h.cell (p := ⟨a.block, a.off + 2, none⟩) (block_lt_of_cell d2)]; exact d2
    have d3 : w.cell? ⟨a.block, a.off + 3, none⟩ = some (.int .u8 (κ 3)) := hk 3 (by omega)
    have c3 : ∀ x : Sub w, x.w.cell? ⟨a.block, a.off + 3, none⟩ = some (.int .u8 (κ 3)) := fun x => by rw [x.h.cell (p := ⟨a.block, a.off + 3, none⟩) (block_lt_of_cell d3)]; exact d3
    clear hk hr
    generalize allI (4 - 1) (fun i => κ (1 + i)) = wh at *
    generalize κ 3 = k3 at *
    generalize κ 2 = k2 at *
    generalize κ 1 = k1 at *
    generalize κ 0 = k0 at *
    obtain ⟨b0, eb0⟩ : ∃ b, (k0 == 19) = b := ⟨_, rfl⟩
    rw [eb0]
    obtain ⟨b1, eb1⟩ : ∃ b, (k1 == k0) = b := ⟨_, rfl⟩
    rw [eb1]
    generalize intK (k2) = b2 at *
    generalize intK (k3) = b3 at *
    cases b0 <;> cases b1 <;> cases b2 <;> cases b3
    all_goals
      go_enter Tryz.func33, Tryz.ntmps33
      go_wp2_with fail
      refine wp_region_sub2 (by kernel_rfl) (by kernel_rfl) ?_
      intro cx
      repeat (first | go_big_quiet_skip | (go_big_quiet_want; go_big_quiet_op; first | go_big_quiet_on | (refine ⟨_, fun _ => rfl, ?_⟩; go_big_quiet_on)))
      refine wpQuiet_nil ?_
      rintro _ ⟨y, rfl⟩
      have Y : Hid (Below w.heap.size w y.w) := y.h
      have y0 := c0 y
      have y1 := c1 y
      have y2 := c2 y
      have y3 := c3 y
      clear cx c0 d0 c1 d1 c2 d2 c3 d3
      generalize y.w = W at *
      go_wp2_with (first | (go_at_call 80; refine (F.out _ Y.out).mono ?_; rintro e w1 ⟨rfl, h⟩; have h' := h.symm; subst h') | (go_at_call 32; with_reducible refine (I2.out _).mono ?_; rintro e w1 ⟨rfl, h⟩; have h' := h.symm; subst h') | (go_at_call 32; with_reducible refine (I3.out _).mono ?_; rintro e w1 ⟨rfl, h⟩; have h' := h.symm; subst h'))
      go_ret
      exact ⟨rfl, Y.out⟩
  · rw [if_neg nn]
    have m2 : ((n : Int) == 4) = false := by simp; omega
    clear nn
    generalize allI (n - 1) (fun i => κ (1 + i)) = wh at *
    generalize κ 0 = k0 at *
    clear hk hr
    go_enter Tryz.func33, Tryz.ntmps33
    go_wp2_with fail
    refine wp_region_sub2 (by kernel_rfl) (by kernel_rfl) ?_
    intro cx
    repeat (first | go_big_quiet_skip | (go_big_quiet_want; go_big_quiet_op; first | go_big_quiet_on | (refine ⟨_, fun _ => rfl, ?_⟩; go_big_quiet_on)))
    refine wpQuiet_nil ?_
    rintro _ ⟨y, rfl⟩
    have Y : Hid (Below w.heap.size w y.w) := y.h
    have y0 := c0 y
    clear cx c0 d0
    generalize y.w = W at *
    go_wp2_with (first | (go_at_call 80; refine (F.out _ Y.out).mono ?_; rintro e w1 ⟨rfl, h⟩; have h' := h.symm; subst h'))
    go_ret
    exact ⟨rfl, Y.out⟩
set_option maxRecDepth 20000 in
set_option maxHeartbeats 1000000 in
theorem ov_35 (a : Addr) (n cap : Nat) (κ : Nat → Int) (w : World) (hk : KsAt w a n κ) (h1 : 1 ≤ n) (h2 : n ≤ 16) (hcap : n ≤ cap) (hr : ∀ i, 0 ≤ κ i ∧ κ i < 256) :
    Calls Tryz.prog 33 #[.int .i64 35, .slice (some a) n cap] w fun e w' => e = .returned (.int .u8 (if n = 2 then gvK (3) (κ 0 == 19 && κ 1 == κ 0) else 0)) ∧ Below w.heap.size w w' := by
  have g3 : (0 : Int) < n := by omega
  have d0 : w.cell? a = some (.int .u8 (κ 0)) := by have := hk 0 (by omega); rwa [Addr.add_zero'] at this
  have c0 : ∀ x : Sub w, x.w.cell? a = some (.int .u8 (κ 0)) := fun x => by rw [x.h.cell (block_lt_of_cell d0)]; exact d0
  have F : Hid (∀ W, Below w.heap.size w W → Calls Tryz.prog 80 #[.slice (some a) n cap] W fun e w' => e = .returned (.bool (allI (n - 1) (fun i => κ (1 + i)))) ∧ w' = W) := fun W hb => func2_of a n cap κ W (hk.below hb) (by omega) h1 hcap hr
  by_cases nn : n = 2
  · rw [if_pos nn]
    subst nn
    have d1 : w.cell? ⟨a.block, a.off + 1, none⟩ = some (.int .u8 (κ 1)) := hk 1 (by omega)
    have c1 : ∀ x : Sub w, x.w.cell? ⟨a.block, a.off + 1, none⟩ = some (.int .u8 (κ 1)) := fun x => by rw [x.h.cell (p := ⟨a.block, a.off + 1, none⟩) (block_lt_of_cell d1)]; exact d1
    clear hk hr
    generalize allI (2 - 1) (fun i => κ (1 + i)) = wh at *
    generalize κ 1 = k1 at *
    generalize κ 0 = k0 at *
    obtain ⟨b0, eb0⟩ : ∃ b, (k0 == 19) = b := ⟨_, rfl⟩
    rw [eb0]
    obtain ⟨b1, eb1⟩ : ∃ b, (k1 == k0) = b := ⟨_, rfl⟩
    rw [eb1]
    cases b0 <;> cases b1
    all_goals
      go_enter Tryz.func33, Tryz.ntmps33
      go_wp2_with fail
      refine wp_region_sub2 (by kernel_rfl) (by kernel_rfl) ?_
      intro cx
      repeat (first | go_big_quiet_skip | (go_big_quiet_want; go_big_quiet_op; first | go_big_quiet_on | (refine ⟨_, fun _ => rfl, ?_⟩; go_big_quiet_on)))
      refine wpQuiet_nil ?_
      rintro _ ⟨y, rfl⟩
      have Y : Hid (Below w.heap.size w y.w) := y.h
      have y0 := c0 y
      have y1 := c1 y
      clear cx c0 d0 c1 d1
      generalize y.w = W at *
      go_wp2_with (first | (go_at_call 80; refine (F.out _ Y.out).mono ?_; rintro e w1 ⟨rfl, h⟩; have h' := h.symm; subst h'))
      go_ret
      exact ⟨rfl, Y.out⟩
  · rw [if_neg nn]
    have m2 : ((n : Int) == 2) = false := by simp; omega
    clear nn
    generalize allI (n - 1) (fun i => κ (1 + i)) = wh at *
    generalize κ 0 = k0 at *
    clear hk hr
    go_enter Tryz.func33, Tryz.ntmps33
    go_wp2_with fail
    refine wp_region_sub2 (by kernel_rfl) (by kernel_rfl) ?_
    intro cx
    repeat (first | go_big_quiet_skip | (go_big_quiet_want; go_big_quiet_op; first | go_big_quiet_on | (refine ⟨_, fun _ => rfl, ?_⟩; go_big_quiet_on)))
    refine wpQuiet_nil ?_
    rintro _ ⟨y, rfl⟩
    have Y : Hid (Below w.heap.size w y.w) := y.h
    have y0 := c0 y
    clear cx c0 d0
    generalize y.w = W at *
    go_wp2_with (first | (go_at_call 80; refine (F.out _ Y.out).mono ?_; rintro e w1 ⟨rfl, h⟩; have h' := h.symm; subst h'))
    go_ret
    exact ⟨rfl, Y.out⟩
end Go.Proofs.YtpaibmganlaaeaaGreatDoor
