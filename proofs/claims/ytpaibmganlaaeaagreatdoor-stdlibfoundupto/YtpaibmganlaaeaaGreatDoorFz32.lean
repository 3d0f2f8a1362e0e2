/- The document's gives, for the functions that other tells; no statement of the seat is proved here. -/
import Derived.Test.YtpaibmganlaaeaaGreatDoorFz28
namespace Go.Proofs.YtpaibmganlaaeaaGreatDoor
set_option linter.unusedVariables false
open Go.RowKit
set_option maxRecDepth 20000 in
set_option maxHeartbeats 1000000 in
theorem gv_22 (a : Addr) (n cap : Nat) (κ : Nat → Int) (w : World) (hk : KsAt w a n κ) (h1 : 1 ≤ n) (h2 : n ≤ 16) (he : 1 ≤ κ 0 ∧ κ 0 ≤ 19) (hcap : n ≤ cap) :
    Calls Tryz.prog 14 #[.int .i64 22, .slice (some a) n cap] w fun e w' => e = .returned (.int .u8 (if 2 ≤ n ∧ intK (κ 0) = true ∧ allS (n - 1) (fun i => κ (1 + i)) = true ∧ (1 ≤ κ 1 ∧ κ 1 ≤ 19) then κ 1 else 0)) ∧ Below w.heap.size w w' := by
  have g1 : ¬ (n : Int) < 1 := by omega
  have g2 : ¬ (16 : Int) < n := by omega
  have g3 : (0 : Int) < n := by omega
  have d0 : w.cell? a = some (.int .u8 (κ 0)) := by have := hk 0 (by omega); rwa [Addr.add_zero'] at this
  have c0 : ∀ x : Sub w, x.w.cell? a = some (.int .u8 (κ 0)) := fun x => by rw [x.h.cell (block_lt_of_cell d0)]; exact d0
  have E : Hid (∀ w, Calls Tryz.prog 28 #[.int .u8 (κ 0)] w fun e w' => e = .returned (.bool true) ∧ w' = w) := fun w => elem_is _ w true (decide_eq_true he)
  have A : Hid (Calls Tryz.prog 29 #[.slice (some a) n cap] w fun e w' => e = .returned (.bool (allS n κ)) ∧ w' = w) := alikeR_of a n cap κ w hk (by omega) (by omega)
  obtain ⟨b1, e1⟩ : ∃ b, intK (κ 0) = b := ⟨_, rfl⟩
  have I0 : Hid (∀ w, Calls Tryz.prog 32 #[.int .u8 (κ 0)] w fun e w' => e = .returned (.bool b1) ∧ w' = w) := fun w => by rw [← e1]; exact IntR_is _ w (by omega)
  by_cases n2 : 2 ≤ n
  · have m2 : (2 : Int) ≤ n := by omega
    have m3 : (1 : Int) ≤ n := by omega
    have m4 : (n : Int) ≤ cap := by omega
    have m5 : (1 : Int) < n := by omega
    have m6 : 1 < n := by omega
    have m7 : ¬ cap = 1 := by omega
    have d1 : w.cell? ⟨a.block, a.off + 1, none⟩ = some (.int .u8 (κ 1)) := hk 1 (by omega)
    have c1 : ∀ x : Sub w, x.w.cell? ⟨a.block, a.off + 1, none⟩ = some (.int .u8 (κ 1)) := fun x => by rw [x.h.cell (p := ⟨a.block, a.off + 1, none⟩) (block_lt_of_cell d1)]; exact d1
    obtain ⟨q, eq⟩ : ∃ q, decide (1 ≤ κ 1 ∧ κ 1 ≤ 19) = q := ⟨_, rfl⟩
    have E1 : Hid (∀ w, Calls Tryz.prog 28 #[.int .u8 (κ 1)] w fun e w' => e = .returned (.bool q) ∧ w' = w) := fun w => elem_is _ w q eq
    obtain ⟨b2, e2⟩ : ∃ b, allS (n - 1) (fun i => κ (1 + i)) = b := ⟨_, rfl⟩
    have A1 : Hid (∀ (W : World) c, Below w.heap.size w W → Calls Tryz.prog 29 #[.slice (some ⟨a.block, a.off + 1, none⟩) (n - 1) c] W fun e w' => e = .returned (.bool b2) ∧ w' = W) := fun W c hb => by rw [← e2]; exact alikeR_of _ (n - 1) c _ W ((hk.shift (m := n - 1) 1 (by omega) (by omega)).below hb) (by omega) (by omega)
    obtain ⟨RR, hR⟩ : ∃ R, (if 2 ≤ n ∧ intK (κ 0) = true ∧ allS (n - 1) (fun i => κ (1 + i)) = true ∧ (1 ≤ κ 1 ∧ κ 1 ≤ 19) then κ 1 else 0) = R := ⟨_, rfl⟩
    rw [hR]
    have HR : Hid ((if b1 = true ∧ b2 = true ∧ q = true then κ 1 else 0) = RR) := by
      show _ = _
      rw [← hR, e1, e2]
      have t3 : (1 ≤ κ 1 ∧ κ 1 ≤ 19) ↔ q = true := by rw [← eq]; simp
      simp only [t3, n2, true_and]
    clear hR eq hk e1 e2
    generalize allS n κ = p at *
    generalize κ 0 = k0 at *
    generalize κ 1 = k1 at *
    cases b1 <;> cases b2 <;> cases q
    all_goals
      go_enter Tryz.func14, Tryz.ntmps14
      go_wp2_with (first | (go_at_call 28; with_reducible refine (E.out _).mono ?_; rintro e w1 ⟨rfl, h⟩; have h' := h.symm; subst h') | (go_at_call 28; with_reducible refine (E1.out _).mono ?_; rintro e w1 ⟨rfl, h⟩; have h' := h.symm; subst h') | (go_at_call 32; with_reducible refine (I0.out _).mono ?_; rintro e w1 ⟨rfl, h⟩; have h' := h.symm; subst h') | (go_at_call 29; with_reducible refine Calls.mono A.out ?_; rintro e w1 ⟨rfl, h⟩; have h' := h.symm; subst h') | (go_at_call 29; with_reducible refine (A1.out _ _ (Below.refl _ _)).mono ?_; rintro e w1 ⟨rfl, h⟩; have h' := h.symm; subst h'))
      go_ret
      exact ⟨by rw [← HR.out]; rfl, Below.refl _ _⟩
  · obtain rfl : n = 1 := by omega
    rw [if_neg (fun q => n2 q.1)]
    clear hk n2 I0 e1
    generalize allS 1 κ = p at *
    generalize κ 0 = k0 at *
    go_enter Tryz.func14, Tryz.ntmps14
    go_wp2_with (first | (go_at_call 28; with_reducible refine (E.out _).mono ?_; rintro e w1 ⟨rfl, h⟩; have h' := h.symm; subst h') | (go_at_call 29; refine Calls.mono A.out ?_; rintro e w1 ⟨rfl, h⟩; have h' := h.symm; subst h'))
    go_ret
    exact ⟨rfl, Below.refl _ _⟩
end Go.Proofs.YtpaibmganlaaeaaGreatDoor
namespace Go.Proofs.YtpaibmganlaaeaaGreatDoor
set_option linter.unusedVariables false
open Go.RowKit
set_option maxRecDepth 20000 in
set_option maxHeartbeats 1000000 in
theorem gv_rest (z : Int) (R : Int) (a : Addr) (n cap : Nat) (κ : Nat → Int) (w : World) (hz : z = 9 ∨ z = 16 ∨ z = 17 ∨ 23 ≤ z) (hk : KsAt w a n κ) (h1 : 1 ≤ n) (h2 : n ≤ 16) (he : 1 ≤ κ 0 ∧ κ 0 ≤ 19)
    (hO : Calls Tryz.prog 33 #[.int .i64 z, .slice (some a) n cap] w fun e w' => e = .returned (.int .u8 R) ∧ Below w.heap.size w w') :
    Calls Tryz.prog 14 #[.int .i64 z, .slice (some a) n cap] w fun e w' => e = .returned (.int .u8 R) ∧ Below w.heap.size w w' := by
  have g1 : ¬ (n : Int) < 1 := by omega
  have g2 : ¬ (16 : Int) < n := by omega
  have g3 : (0 : Int) < n := by omega
  have d0 : w.cell? a = some (.int .u8 (κ 0)) := by have := hk 0 (by omega); rwa [Addr.add_zero'] at this
  have E : Hid (∀ w, Calls Tryz.prog 28 #[.int .u8 (κ 0)] w fun e w' => e = .returned (.bool true) ∧ w' = w) := fun w => elem_is _ w true (decide_eq_true he)
  have A : Hid (Calls Tryz.prog 29 #[.slice (some a) n cap] w fun e w' => e = .returned (.bool (allS n κ)) ∧ w' = w) := alikeR_of a n cap κ w hk (by omega) (by omega)
  have HO : Hid _ := hO
  clear hk hO
  generalize allS n κ = p at *
  generalize κ 0 = k0 at *
  have z1 : (z == 1) = false := by simp; omega
  have z2 : (z == 2) = false := by simp; omega
  have z3 : (z == 3) = false := by simp; omega
  have z4 : (z == 4) = false := by simp; omega
  have z5 : (z == 5) = false := by simp; omega
  have z11 : (z == 11) = false := by simp; omega
  have z18 : (z == 18) = false := by simp; omega
  have z19 : (z == 19) = false := by simp; omega
  have z20 : (z == 20) = false := by simp; omega
  have z21 : (z == 21) = false := by simp; omega
  have z22 : (z == 22) = false := by simp; omega
  by_cases z9 : z = 9
  · subst z9
    go_enter Tryz.func14, Tryz.ntmps14
    go_wp2_with (first | (go_at_call 28; refine (E.out _).mono ?_; rintro e w1 ⟨rfl, h⟩; have h' := h.symm; subst h') | (go_at_call 29; refine Calls.mono A.out ?_; rintro e w1 ⟨rfl, h⟩; have h' := h.symm; subst h') | (go_at_call 33; refine Calls.mono HO.out ?_; rintro e w1 ⟨rfl, h⟩; have Y : Hid _ := h; clear h))
    go_ret
    exact ⟨rfl, Y.out⟩
  · have q1 : (6 : Int) ≤ z := by omega
    have q2 : ¬ z ≤ 8 := by omega
    have q3 : (10 : Int) ≤ z := by omega
    have q4 : ¬ z ≤ 15 := by omega
    clear hz z9
    go_enter Tryz.func14, Tryz.ntmps14
    go_wp2_with (first | (go_at_call 28; refine (E.out _).mono ?_; rintro e w1 ⟨rfl, h⟩; have h' := h.symm; subst h') | (go_at_call 29; refine Calls.mono A.out ?_; rintro e w1 ⟨rfl, h⟩; have h' := h.symm; subst h') | (go_at_call 33; refine Calls.mono HO.out ?_; rintro e w1 ⟨rfl, h⟩; have Y : Hid _ := h; clear h))
    go_ret
    exact ⟨rfl, Y.out⟩
end Go.Proofs.YtpaibmganlaaeaaGreatDoor
