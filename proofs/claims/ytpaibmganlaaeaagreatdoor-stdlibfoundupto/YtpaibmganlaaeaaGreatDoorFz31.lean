/- The document's gives, for single functions; no statement of the seat is proved here. -/
import Derived.Test.YtpaibmganlaaeaaGreatDoorFz28
namespace Go.Proofs.YtpaibmganlaaeaaGreatDoor
set_option linter.unusedVariables false
open Go.RowKit
set_option maxRecDepth 20000 in
set_option maxHeartbeats 1000000 in
theorem gv_10 (a : Addr) (n cap : Nat) (κ : Nat → Int) (w : World) (hk : KsAt w a n κ) (h1 : 1 ≤ n) (h2 : n ≤ 16) (he : 1 ≤ κ 0 ∧ κ 0 ≤ 19) :
    Calls Tryz.prog 14 #[.int .i64 10, .slice (some a) n cap] w fun e w' => e = .returned (.int .u8 (if 2 ≤ n ∧ allS n κ = true then 1 else 0)) ∧ Below w.heap.size w w' := by
  have g1 : ¬ (n : Int) < 1 := by omega
  have g2 : ¬ (16 : Int) < n := by omega
  have g3 : (0 : Int) < n := by omega
  have d0 : w.cell? a = some (.int .u8 (κ 0)) := by have := hk 0 (by omega); rwa [Addr.add_zero'] at this
  have c0 : ∀ x : Sub w, x.w.cell? a = some (.int .u8 (κ 0)) := fun x => by rw [x.h.cell (block_lt_of_cell d0)]; exact d0
  have E : Hid (∀ w, Calls Tryz.prog 28 #[.int .u8 (κ 0)] w fun e w' => e = .returned (.bool true) ∧ w' = w) := fun w => elem_is _ w true (decide_eq_true he)
  have A : Hid (Calls Tryz.prog 29 #[.slice (some a) n cap] w fun e w' => e = .returned (.bool (allS n κ)) ∧ w' = w) := alikeR_of a n cap κ w hk (by omega) (by omega)
  clear hk c0
  generalize allS n κ = p at *
  generalize κ 0 = k0 at *
  by_cases n2 : 2 ≤ n
  · have m2 : (2 : Int) ≤ n := by omega
    cases p
    · rw [if_neg (fun q => by cases q.2)]
      go_enter Tryz.func14, Tryz.ntmps14
      go_wp2_with (first | (go_at_call 28; with_reducible refine (E.out _).mono ?_; rintro e w1 ⟨rfl, h⟩; have h' := h.symm; subst h') | (go_at_call 29; refine Calls.mono A.out ?_; rintro e w1 ⟨rfl, h⟩; have h' := h.symm; subst h'))
      go_ret
      exact ⟨rfl, Below.refl _ _⟩
    · rw [if_pos ⟨by omega, rfl⟩]
      go_enter Tryz.func14, Tryz.ntmps14
      go_wp2_with (first | (go_at_call 28; with_reducible refine (E.out _).mono ?_; rintro e w1 ⟨rfl, h⟩; have h' := h.symm; subst h') | (go_at_call 29; refine Calls.mono A.out ?_; rintro e w1 ⟨rfl, h⟩; have h' := h.symm; subst h'))
      go_ret
      exact ⟨rfl, Below.refl _ _⟩
  · have m2 : ¬ (2 : Int) ≤ n := by omega
    rw [if_neg (fun q => n2 q.1)]
    go_enter Tryz.func14, Tryz.ntmps14
    go_wp2_with (first | (go_at_call 28; with_reducible refine (E.out _).mono ?_; rintro e w1 ⟨rfl, h⟩; have h' := h.symm; subst h') | (go_at_call 29; refine Calls.mono A.out ?_; rintro e w1 ⟨rfl, h⟩; have h' := h.symm; subst h'))
    go_ret
    exact ⟨rfl, Below.refl _ _⟩
set_option maxRecDepth 20000 in
set_option maxHeartbeats 1000000 in
theorem gv_11 (a : Addr) (n cap : Nat) (κ : Nat → Int) (w : World) (hk : KsAt w a n κ) (h1 : 1 ≤ n) (h2 : n ≤ 16) (he : 1 ≤ κ 0 ∧ κ 0 ≤ 19) :
    Calls Tryz.prog 14 #[.int .i64 11, .slice (some a) n cap] w fun e w' => e = .returned (.int .u8 (if n = 2 ∧ allS n κ = true then 1 else 0)) ∧ Below w.heap.size w w' := by
  have g1 : ¬ (n : Int) < 1 := by omega
  have g2 : ¬ (16 : Int) < n := by omega
  have g3 : (0 : Int) < n := by omega
  have d0 : w.cell? a = some (.int .u8 (κ 0)) := by have := hk 0 (by omega); rwa [Addr.add_zero'] at this
  have c0 : ∀ x : Sub w, x.w.cell? a = some (.int .u8 (κ 0)) := fun x => by rw [x.h.cell (block_lt_of_cell d0)]; exact d0
  have E : Hid (∀ w, Calls Tryz.prog 28 #[.int .u8 (κ 0)] w fun e w' => e = .returned (.bool true) ∧ w' = w) := fun w => elem_is _ w true (decide_eq_true he)
  have A : Hid (Calls Tryz.prog 29 #[.slice (some a) n cap] w fun e w' => e = .returned (.bool (allS n κ)) ∧ w' = w) := alikeR_of a n cap κ w hk (by omega) (by omega)
  clear hk c0
  generalize allS n κ = p at *
  generalize κ 0 = k0 at *
  by_cases n2 : n = 2
  · subst n2
    cases p
    · rw [if_neg (fun q => by cases q.2)]
      go_enter Tryz.func14, Tryz.ntmps14
      go_wp2_with (first | (go_at_call 28; with_reducible refine (E.out _).mono ?_; rintro e w1 ⟨rfl, h⟩; have h' := h.symm; subst h') | (go_at_call 29; refine Calls.mono A.out ?_; rintro e w1 ⟨rfl, h⟩; have h' := h.symm; subst h'))
      go_ret
      exact ⟨rfl, Below.refl _ _⟩
    · rw [if_pos ⟨by omega, rfl⟩]
      go_enter Tryz.func14, Tryz.ntmps14
      go_wp2_with (first | (go_at_call 28; with_reducible refine (E.out _).mono ?_; rintro e w1 ⟨rfl, h⟩; have h' := h.symm; subst h') | (go_at_call 29; refine Calls.mono A.out ?_; rintro e w1 ⟨rfl, h⟩; have h' := h.symm; subst h'))
      go_ret
      exact ⟨rfl, Below.refl _ _⟩
  · have m2 : ((n : Int) == 2) = false := by simp; omega
    rw [if_neg (fun q => n2 q.1)]
    go_enter Tryz.func14, Tryz.ntmps14
    go_wp2_with (first | (go_at_call 28; with_reducible refine (E.out _).mono ?_; rintro e w1 ⟨rfl, h⟩; have h' := h.symm; subst h') | (go_at_call 29; refine Calls.mono A.out ?_; rintro e w1 ⟨rfl, h⟩; have h' := h.symm; subst h'))
    go_ret
    exact ⟨rfl, Below.refl _ _⟩
set_option maxRecDepth 20000 in
set_option maxHeartbeats 1000000 in
theorem gv_12 (a : Addr) (n cap : Nat) (κ : Nat → Int) (w : World) (hk : KsAt w a n κ) (h1 : 1 ≤ n) (h2 : n ≤ 16) (he : 1 ≤ κ 0 ∧ κ 0 ≤ 19) :
    Calls Tryz.prog 14 #[.int .i64 12, .slice (some a) n cap] w fun e w' => e = .returned (.int .u8 (if 2 ≤ n ∧ allS n κ = true then 1 else 0)) ∧ Below w.heap.size w w' := by
  have g1 : ¬ (n : Int) < 1 := by omega
  have g2 : ¬ (16 : Int) < n := by omega
  have g3 : (0 : Int) < n := by omega
  have d0 : w.cell? a = some (.int .u8 (κ 0)) := by have := hk 0 (by omega); rwa [Addr.add_zero'] at this
  have c0 : ∀ x : Sub w, x.w.cell? a = some (.int .u8 (κ 0)) := fun x => by rw [x.h.cell (block_lt_of_cell d0)]; exact d0
  have E : Hid (∀ w, Calls Tryz.prog 28 #[.int .u8 (κ 0)] w fun e w' => e = .returned (.bool true) ∧ w' = w) := fun w => elem_is _ w true (decide_eq_true he)
  have A : Hid (Calls Tryz.prog 29 #[.slice (some a) n cap] w fun e w' => e = .returned (.bool (allS n κ)) ∧ w' = w) := alikeR_of a n cap κ w hk (by omega) (by omega)
  clear hk c0
  generalize allS n κ = p at *
  generalize κ 0 = k0 at *
  by_cases n2 : 2 ≤ n
  · have m2 : (2 : Int) ≤ n := by omega
    cases p
    · rw [if_neg (fun q => by cases q.2)]
      go_enter Tryz.func14, Tryz.ntmps14
      go_wp2_with (first | (go_at_call 28; with_reducible refine (E.out _).mono ?_; rintro e w1 ⟨rfl, h⟩; have h' := h.symm; subst h') | (go_at_call 29; refine Calls.mono A.out ?_; rintro e w1 ⟨rfl, h⟩; have h' := h.symm; subst h'))
      go_ret
      exact ⟨rfl, Below.refl _ _⟩
    · rw [if_pos ⟨by omega, rfl⟩]
      go_enter Tryz.func14, Tryz.ntmps14
      go_wp2_with (first | (go_at_call 28; with_reducible refine (E.out _).mono ?_; rintro e w1 ⟨rfl, h⟩; have h' := h.symm; subst h') | (go_at_call 29; refine Calls.mono A.out ?_; rintro e w1 ⟨rfl, h⟩; have h' := h.symm; subst h'))
      go_ret
      exact ⟨rfl, Below.refl _ _⟩
  · have m2 : ¬ (2 : Int) ≤ n := by omega
    rw [if_neg (fun q => n2 q.1)]
    go_enter Tryz.func14, Tryz.ntmps14
    go_wp2_with (first | (go_at_call 28; with_reducible refine (E.out _).mono ?_; rintro e w1 ⟨rfl, h⟩; have h' := h.symm; subst h') | (go_at_call 29; refine Calls.mono A.out ?_; rintro e w1 ⟨rfl, h⟩; have h' := h.symm; subst h'))
    go_ret
    exact ⟨rfl, Below.refl _ _⟩
set_option maxRecDepth 20000 in
set_option maxHeartbeats 1000000 in
theorem gv_13 (a : Addr) (n cap : Nat) (κ : Nat → Int) (w : World) (hk : KsAt w a n κ) (h1 : 1 ≤ n) (h2 : n ≤ 16) (he : 1 ≤ κ 0 ∧ κ 0 ≤ 19) :
    Calls Tryz.prog 14 #[.int .i64 13, .slice (some a) n cap] w fun e w' => e = .returned (.int .u8 (if 2 ≤ n ∧ allS n κ = true then 1 else 0)) ∧ Below w.heap.size w w' := by
  have g1 : ¬ (n : Int) < 1 := by omega
  have g2 : ¬ (16 : Int) < n := by omega
  have g3 : (0 : Int) < n := by omega
  have d0 : w.cell? a = some (.int .u8 (κ 0)) := by have := hk 0 (by omega); rwa [Addr.add_zero'] at this
  have c0 : ∀ x : Sub w, x.w.cell? a = some (.int .u8 (κ 0)) := fun x => by rw [x.h.cell (block_lt_of_cell d0)]; exact d0
  have E : Hid (∀ w, Calls Tryz.prog 28 #[.int .u8 (κ 0)] w fun e w' => e = .returned (.bool true) ∧ w' = w) := fun w => elem_is _ w true (decide_eq_true he)
  have A : Hid (Calls Tryz.prog 29 #[.slice (some a) n cap] w fun e w' => e = .returned (.bool (allS n κ)) ∧ w' = w) := alikeR_of a n cap κ w hk (by omega) (by omega)
  clear hk c0
  generalize allS n κ = p at *
  generalize κ 0 = k0 at *
  by_cases n2 : 2 ≤ n
  · have m2 : (2 : Int) ≤ n := by omega
    cases p
    · rw [if_neg (fun q => by cases q.2)]
      go_enter Tryz.func14, Tryz.ntmps14
      go_wp2_with (first | (go_at_call 28; with_reducible refine (E.out _).mono ?_; rintro e w1 ⟨rfl, h⟩; have h' := h.symm; subst h') | (go_at_call 29; refine Calls.mono A.out ?_; rintro e w1 ⟨rfl, h⟩; have h' := h.symm; subst h'))
      go_ret
      exact ⟨rfl, Below.refl _ _⟩
    · rw [if_pos ⟨by omega, rfl⟩]
      go_enter Tryz.func14, Tryz.ntmps14
      go_wp2_with (first | (go_at_call 28; with_reducible refine (E.out _).mono ?_; rintro e w1 ⟨rfl, h⟩; have h' := h.symm; subst h') | (go_at_call 29; refine Calls.mono A.out ?_; rintro e w1 ⟨rfl, h⟩; have h' := h.symm; subst h'))
      go_ret
      exact ⟨rfl, Below.refl _ _⟩
  · have m2 : ¬ (2 : Int) ≤ n := by omega
    rw [if_neg (fun q => n2 q.1)]
    go_enter Tryz.func14, Tryz.ntmps14
    go_wp2_with (first | (go_at_call 28; with_reducible refine (E.out _).mono ?_; rintro e w1 ⟨rfl, h⟩; have h' := h.symm; subst h') | (go_at_call 29; refine Calls.mono A.out ?_; rintro e w1 ⟨rfl, h⟩; have h' := h.symm; subst h'))
    go_ret
    exact ⟨rfl, Below.refl _ _⟩
set_option maxRecDepth 20000 in
set_option maxHeartbeats 1000000 in
theorem gv_14 (a : Addr) (n cap : Nat) (κ : Nat → Int) (w : World) (hk : KsAt w a n κ) (h1 : 1 ≤ n) (h2 : n ≤ 16) (he : 1 ≤ κ 0 ∧ κ 0 ≤ 19) :
    Calls Tryz.prog 14 #[.int .i64 14, .slice (some a) n cap] w fun e w' => e = .returned (.int .u8 (if 2 ≤ n ∧ allS n κ = true then 1 else 0)) ∧ Below w.heap.size w w' := by
  have g1 : ¬ (n : Int) < 1 := by omega
  have g2 : ¬ (16 : Int) < n := by omega
  have g3 : (0 : Int) < n := by omega
  have d0 : w.cell? a = some (.int .u8 (κ 0)) := by have := hk 0 (by omega); rwa [Addr.add_zero'] at this
  have c0 : ∀ x : Sub w, x.w.cell? a = some (.int .u8 (κ 0)) := fun x => by rw [x.h.cell (block_lt_of_cell d0)]; exact d0
  have E : Hid (∀ w, Calls Tryz.prog 28 #[.int .u8 (κ 0)] w fun e w' => e = .returned (.bool true) ∧ w' = w) := fun w => elem_is _ w true (decide_eq_true he)
  have A : Hid (Calls Tryz.prog 29 #[.slice (some a) n cap] w fun e w' => e = .returned (.bool (allS n κ)) ∧ w' = w) := alikeR_of a n cap κ w hk (by omega) (by omega)
  clear hk c0
  generalize allS n κ = p at *
  generalize κ 0 = k0 at *
  by_cases n2 : 2 ≤ n
  · have m2 : (2 : Int) ≤ n := by omega
    cases p
    · rw [if_neg (fun q => by cases q.2)]
      go_enter Tryz.func14, Tryz.ntmps14
      go_wp2_with (first | (go_at_call 28; with_reducible refine (E.out _).mono ?_; rintro e w1 ⟨rfl, h⟩; have h' := h.symm; subst h') | (go_at_call 29; refine Calls.mono A.out ?_; rintro e w1 ⟨rfl, h⟩; have h' := h.symm; subst h'))
      go_ret
      exact ⟨rfl, Below.refl _ _⟩
    · rw [if_pos ⟨by omega, rfl⟩]
      go_enter Tryz.func14, Tryz.ntmps14
      go_wp2_with (first | (go_at_call 28; with_reducible refine (E.out _).mono ?_; rintro e w1 ⟨rfl, h⟩; have h' := h.symm; subst h') | (go_at_call 29; refine Calls.mono A.out ?_; rintro e w1 ⟨rfl, h⟩; have h' := h.symm; subst h'))
      go_ret
      exact ⟨rfl, Below.refl _ _⟩
  · have m2 : ¬ (2 : Int) ≤ n := by omega
    rw [if_neg (fun q => n2 q.1)]
    go_enter Tryz.func14, Tryz.ntmps14
    go_wp2_with (first | (go_at_call 28; with_reducible refine (E.out _).mono ?_; rintro e w1 ⟨rfl, h⟩; have h' := h.symm; subst h') | (go_at_call 29; refine Calls.mono A.out ?_; rintro e w1 ⟨rfl, h⟩; have h' := h.symm; subst h'))
    go_ret
    exact ⟨rfl, Below.refl _ _⟩
set_option maxRecDepth 20000 in
set_option maxHeartbeats 1000000 in
theorem gv_15 (a : Addr) (n cap : Nat) (κ : Nat → Int) (w : World) (hk : KsAt w a n κ) (h1 : 1 ≤ n) (h2 : n ≤ 16) (he : 1 ≤ κ 0 ∧ κ 0 ≤ 19) :
    Calls Tryz.prog 14 #[.int .i64 15, .slice (some a) n cap] w fun e w' => e = .returned (.int .u8 (if 2 ≤ n ∧ allS n κ = true then 1 else 0)) ∧ Below w.heap.size w w' := by
  have g1 : ¬ (n : Int) < 1 := by omega
  have g2 : ¬ (16 : Int) < n := by omega
  have g3 : (0 : Int) < n := by omega
  have d0 : w.cell? a = some (.int .u8 (κ 0)) := by have := hk 0 (by omega); rwa [Addr.add_zero'] at this
  have c0 : ∀ x : Sub w, x.w.cell? a = some (.int .u8 (κ 0)) := fun x => by rw [x.h.cell (block_lt_of_cell d0)]; exact d0
  have E : Hid (∀ w, Calls Tryz.prog 28 #[.int .u8 (κ 0)] w fun e w' => e = .returned (.bool true) ∧ w' = w) := fun w => elem_is _ w true (decide_eq_true he)
  have A : Hid (Calls Tryz.prog 29 #[.slice (some a) n cap] w fun e w' => e = .returned (.bool (allS n κ)) ∧ w' = w) := alikeR_of a n cap κ w hk (by omega) (by omega)
  clear hk c0
  generalize allS n κ = p at *
  generalize κ 0 = k0 at *
  by_cases n2 : 2 ≤ n
  · have m2 : (2 : Int) ≤ n := by omega
    cases p
    · rw [if_neg (fun q => by cases q.2)]
      go_enter Tryz.func14, Tryz.ntmps14
      go_wp2_with (first | (go_at_call 28; with_reducible refine (E.out _).mono ?_; rintro e w1 ⟨rfl, h⟩; have h' := h.symm; subst h') | (go_at_call 29; refine Calls.mono A.out ?_; rintro e w1 ⟨rfl, h⟩; have h' := h.symm; subst h'))
      go_ret
      exact ⟨rfl, Below.refl _ _⟩
    · rw [if_pos ⟨by omega, rfl⟩]
      go_enter Tryz.func14, Tryz.ntmps14
      go_wp2_with (first | (go_at_call 28; with_reducible refine (E.out _).mono ?_; rintro e w1 ⟨rfl, h⟩; have h' := h.symm; subst h') | (go_at_call 29; refine Calls.mono A.out ?_; rintro e w1 ⟨rfl, h⟩; have h' := h.symm; subst h'))
      go_ret
      exact ⟨rfl, Below.refl _ _⟩
  · have m2 : ¬ (2 : Int) ≤ n := by omega
    rw [if_neg (fun q => n2 q.1)]
    go_enter Tryz.func14, Tryz.ntmps14
    go_wp2_with (first | (go_at_call 28; with_reducible refine (E.out _).mono ?_; rintro e w1 ⟨rfl, h⟩; have h' := h.symm; subst h') | (go_at_call 29; refine Calls.mono A.out ?_; rintro e w1 ⟨rfl, h⟩; have h' := h.symm; subst h'))
    go_ret
    exact ⟨rfl, Below.refl _ _⟩
set_option maxRecDepth 20000 in
set_option maxHeartbeats 1000000 in
theorem gv_18 (a : Addr) (n cap : Nat) (κ : Nat → Int) (w : World) (hk : KsAt w a n κ) (h1 : 1 ≤ n) (h2 : n ≤ 16) (he : 1 ≤ κ 0 ∧ κ 0 ≤ 19) :
    Calls Tryz.prog 14 #[.int .i64 18, .slice (some a) n cap] w fun e w' => e = .returned (.int .u8 (if 2 ≤ n ∧ allS n κ = true then κ 0 else 0)) ∧ Below w.heap.size w w' := by
  have g1 : ¬ (n : Int) < 1 := by omega
  have g2 : ¬ (16 : Int) < n := by omega
  have g3 : (0 : Int) < n := by omega
  have d0 : w.cell? a = some (.int .u8 (κ 0)) := by have := hk 0 (by omega); rwa [Addr.add_zero'] at this
  have c0 : ∀ x : Sub w, x.w.cell? a = some (.int .u8 (κ 0)) := fun x => by rw [x.h.cell (block_lt_of_cell d0)]; exact d0
  have E : Hid (∀ w, Calls Tryz.prog 28 #[.int .u8 (κ 0)] w fun e w' => e = .returned (.bool true) ∧ w' = w) := fun w => elem_is _ w true (decide_eq_true he)
  have A : Hid (Calls Tryz.prog 29 #[.slice (some a) n cap] w fun e w' => e = .returned (.bool (allS n κ)) ∧ w' = w) := alikeR_of a n cap κ w hk (by omega) (by omega)
  clear hk c0
  generalize allS n κ = p at *
  generalize κ 0 = k0 at *
  by_cases n2 : 2 ≤ n
  · have m2 : (2 : Int) ≤ n := by omega
    cases p
    · rw [if_neg (fun q => by cases q.2)]
      go_enter Tryz.func14, Tryz.ntmps14
      go_wp2_with (first | (go_at_call 28; with_reducible refine (E.out _).mono ?_; rintro e w1 ⟨rfl, h⟩; have h' := h.symm; subst h') | (go_at_call 29; refine Calls.mono A.out ?_; rintro e w1 ⟨rfl, h⟩; have h' := h.symm; subst h'))
      go_ret
      exact ⟨rfl, Below.refl _ _⟩
    · rw [if_pos ⟨by omega, rfl⟩]
      go_enter Tryz.func14, Tryz.ntmps14
      go_wp2_with (first | (go_at_call 28; with_reducible refine (E.out _).mono ?_; rintro e w1 ⟨rfl, h⟩; have h' := h.symm; subst h') | (go_at_call 29; refine Calls.mono A.out ?_; rintro e w1 ⟨rfl, h⟩; have h' := h.symm; subst h'))
      go_ret
      exact ⟨rfl, Below.refl _ _⟩
  · have m2 : ¬ (2 : Int) ≤ n := by omega
    rw [if_neg (fun q => n2 q.1)]
    go_enter Tryz.func14, Tryz.ntmps14
    go_wp2_with (first | (go_at_call 28; with_reducible refine (E.out _).mono ?_; rintro e w1 ⟨rfl, h⟩; have h' := h.symm; subst h') | (go_at_call 29; refine Calls.mono A.out ?_; rintro e w1 ⟨rfl, h⟩; have h' := h.symm; subst h'))
    go_ret
    exact ⟨rfl, Below.refl _ _⟩
set_option maxRecDepth 20000 in
set_option maxHeartbeats 1000000 in
theorem gv_19 (a : Addr) (n cap : Nat) (κ : Nat → Int) (w : World) (hk : KsAt w a n κ) (h1 : 1 ≤ n) (h2 : n ≤ 16) (he : 1 ≤ κ 0 ∧ κ 0 ≤ 19) :
    Calls Tryz.prog 14 #[.int .i64 19, .slice (some a) n cap] w fun e w' => e = .returned (.int .u8 (if 2 ≤ n ∧ allS n κ = true then κ 0 else 0)) ∧ Below w.heap.size w w' := by
  have g1 : ¬ (n : Int) < 1 := by omega
  have g2 : ¬ (16 : Int) < n := by omega
  have g3 : (0 : Int) < n := by omega
  have d0 : w.cell? a = some (.int .u8 (κ 0)) := by have := hk 0 (by omega); rwa [Addr.add_zero'] at this
  have c0 : ∀ x : Sub w, x.w.cell? a = some (.int .u8 (κ 0)) := fun x => by rw [x.h.cell (block_lt_of_cell d0)]; exact d0
  have E : Hid (∀ w, Calls Tryz.prog 28 #[.int .u8 (κ 0)] w fun e w' => e = .returned (.bool true) ∧ w' = w) := fun w => elem_is _ w true (decide_eq_true he)
  have A : Hid (Calls Tryz.prog 29 #[.slice (some a) n cap] w fun e w' => e = .returned (.bool (allS n κ)) ∧ w' = w) := alikeR_of a n cap κ w hk (by omega) (by omega)
  clear hk c0
  generalize allS n κ = p at *
  generalize κ 0 = k0 at *
  by_cases n2 : 2 ≤ n
  · have m2 : (2 : Int) ≤ n := by omega
    cases p
    · rw [if_neg (fun q => by cases q.2)]
      go_enter Tryz.func14, Tryz.ntmps14
      go_wp2_with (first | (go_at_call 28; with_reducible refine (E.out _).mono ?_; rintro e w1 ⟨rfl, h⟩; have h' := h.symm; subst h') | (go_at_call 29; refine Calls.mono A.out ?_; rintro e w1 ⟨rfl, h⟩; have h' := h.symm; subst h'))
      go_ret
      exact ⟨rfl, Below.refl _ _⟩
    · rw [if_pos ⟨by omega, rfl⟩]
      go_enter Tryz.func14, Tryz.ntmps14
      go_wp2_with (first | (go_at_call 28; with_reducible refine (E.out _).mono ?_; rintro e w1 ⟨rfl, h⟩; have h' := h.symm; subst h') | (go_at_call 29; refine Calls.mono A.out ?_; rintro e w1 ⟨rfl, h⟩; have h' := h.symm; subst h'))
      go_ret
      exact ⟨rfl, Below.refl _ _⟩
  · have m2 : ¬ (2 : Int) ≤ n := by omega
    rw [if_neg (fun q => n2 q.1)]
    go_enter Tryz.func14, Tryz.ntmps14
    go_wp2_with (first | (go_at_call 28; with_reducible refine (E.out _).mono ?_; rintro e w1 ⟨rfl, h⟩; have h' := h.symm; subst h') | (go_at_call 29; refine Calls.mono A.out ?_; rintro e w1 ⟨rfl, h⟩; have h' := h.symm; subst h'))
    go_ret
    exact ⟨rfl, Below.refl _ _⟩
set_option maxRecDepth 20000 in
set_option maxHeartbeats 1000000 in
theorem gv_20 (a : Addr) (n cap : Nat) (κ : Nat → Int) (w : World) (hk : KsAt w a n κ) (h1 : 1 ≤ n) (h2 : n ≤ 16) (he : 1 ≤ κ 0 ∧ κ 0 ≤ 19) :
    Calls Tryz.prog 14 #[.int .i64 20, .slice (some a) n cap] w fun e w' => e = .returned (.int .u8 (if n = 3 ∧ allS n κ = true then κ 0 else 0)) ∧ Below w.heap.size w w' := by
  have g1 : ¬ (n : Int) < 1 := by omega
  have g2 : ¬ (16 : Int) < n := by omega
  have g3 : (0 : Int) < n := by omega
  have d0 : w.cell? a = some (.int .u8 (κ 0)) := by have := hk 0 (by omega); rwa [Addr.add_zero'] at this
  have c0 : ∀ x : Sub w, x.w.cell? a = some (.int .u8 (κ 0)) := fun x => by rw [x.h.cell (block_lt_of_cell d0)]; exact d0
  have E : Hid (∀ w, Calls Tryz.prog 28 #[.int .u8 (κ 0)] w fun e w' => e = .returned (.bool true) ∧ w' = w) := fun w => elem_is _ w true (decide_eq_true he)
  have A : Hid (Calls Tryz.prog 29 #[.slice (some a) n cap] w fun e w' => e = .returned (.bool (allS n κ)) ∧ w' = w) := alikeR_of a n cap κ w hk (by omega) (by omega)
  clear hk c0
  generalize allS n κ = p at *
  generalize κ 0 = k0 at *
  by_cases n2 : n = 3
  · subst n2
    cases p
    · rw [if_neg (fun q => by cases q.2)]
      go_enter Tryz.func14, Tryz.ntmps14
      go_wp2_with (first | (go_at_call 28; with_reducible refine (E.out _).mono ?_; rintro e w1 ⟨rfl, h⟩; have h' := h.symm; subst h') | (go_at_call 29; refine Calls.mono A.out ?_; rintro e w1 ⟨rfl, h⟩; have h' := h.symm; subst h'))
      go_ret
      exact ⟨rfl, Below.refl _ _⟩
    · rw [if_pos ⟨by omega, rfl⟩]
      go_enter Tryz.func14, Tryz.ntmps14
      go_wp2_with (first | (go_at_call 28; with_reducible refine (E.out _).mono ?_; rintro e w1 ⟨rfl, h⟩; have h' := h.symm; subst h') | (go_at_call 29; refine Calls.mono A.out ?_; rintro e w1 ⟨rfl, h⟩; have h' := h.symm; subst h'))
      go_ret
      exact ⟨rfl, Below.refl _ _⟩
  · have m2 : ((n : Int) == 3) = false := by simp; omega
    rw [if_neg (fun q => n2 q.1)]
    go_enter Tryz.func14, Tryz.ntmps14
    go_wp2_with (first | (go_at_call 28; with_reducible refine (E.out _).mono ?_; rintro e w1 ⟨rfl, h⟩; have h' := h.symm; subst h') | (go_at_call 29; refine Calls.mono A.out ?_; rintro e w1 ⟨rfl, h⟩; have h' := h.symm; subst h'))
    go_ret
    exact ⟨rfl, Below.refl _ _⟩
end Go.Proofs.YtpaibmganlaaeaaGreatDoor
