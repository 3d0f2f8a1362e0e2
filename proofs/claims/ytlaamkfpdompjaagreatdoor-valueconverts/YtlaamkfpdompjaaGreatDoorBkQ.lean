/- The document's tests of kinds, its makers, and its numbers by sign and size; no statement of the seat is proved here. -/
import Derived.Test.YtlaamkfpdompjaaGreatDoorTurnS
import Derived.Test.YtlaamkfpdompjaaGreatDoorCmpA
namespace Go.Proofs.YtlaamkfpdompjaaGreatDoor
set_option linter.unusedVariables false
open Go.RowKit
set_option maxHeartbeats 1000000 in
theorem SignedR_is (k : Int) (w : World) (p : Bool) (hk : 0 ≤ k ∧ k < 256) (h : p = decide (2 ≤ k ∧ k ≤ 5)) : Calls Tryz.prog 43 #[.int .u8 k] w fun e w' => e = .returned (.bool p) ∧ w' = w := by
  subst h
  rcases kinds k hk with rfl | rfl | rfl | rfl | rfl | rfl | rfl | rfl | rfl | rfl | rfl | rfl | rfl | rfl | rfl | rfl | rfl | rfl | rfl | rfl | hk2
  all_goals
    go_enter Tryz.func43, Tryz.ntmps43
    go_wp2
    go_ret
    exact ⟨ret_bool (by first | rfl | (symm; simp; omega) | (rw [Bool.eq_iff_iff]; simp; omega)), rfl⟩
set_option maxHeartbeats 1000000 in
theorem UnsignedR_is (k : Int) (w : World) (p : Bool) (hk : 0 ≤ k ∧ k < 256) (h : p = decide (6 ≤ k ∧ k ≤ 9)) : Calls Tryz.prog 60 #[.int .u8 k] w fun e w' => e = .returned (.bool p) ∧ w' = w := by
  subst h
  rcases kinds k hk with rfl | rfl | rfl | rfl | rfl | rfl | rfl | rfl | rfl | rfl | rfl | rfl | rfl | rfl | rfl | rfl | rfl | rfl | rfl | rfl | hk2
  all_goals
    go_enter Tryz.func60, Tryz.ntmps60
    go_wp2
    go_ret
    exact ⟨ret_bool (by first | rfl | (symm; simp; omega) | (rw [Bool.eq_iff_iff]; simp; omega)), rfl⟩
set_option maxHeartbeats 1000000 in
theorem RowR_is (k : Int) (w : World) (p : Bool) (hk : 0 ≤ k ∧ k < 256) (h : p = decide (10 ≤ k ∧ k ≤ 13)) : Calls Tryz.prog 45 #[.int .u8 k] w fun e w' => e = .returned (.bool p) ∧ w' = w := by
  subst h
  rcases kinds k hk with rfl | rfl | rfl | rfl | rfl | rfl | rfl | rfl | rfl | rfl | rfl | rfl | rfl | rfl | rfl | rfl | rfl | rfl | rfl | rfl | hk2
  all_goals
    go_enter Tryz.func45, Tryz.ntmps45
    go_wp2
    go_ret
    exact ⟨ret_bool (by first | rfl | (symm; simp; omega) | (rw [Bool.eq_iff_iff]; simp; omega)), rfl⟩
set_option maxHeartbeats 1000000 in
theorem TimeR_is (k : Int) (w : World) (p : Bool) (hk : 0 ≤ k ∧ k < 256) (h : p = decide (14 ≤ k ∧ k ≤ 17)) : Calls Tryz.prog 19 #[.int .u8 k] w fun e w' => e = .returned (.bool p) ∧ w' = w := by
  subst h
  rcases kinds k hk with rfl | rfl | rfl | rfl | rfl | rfl | rfl | rfl | rfl | rfl | rfl | rfl | rfl | rfl | rfl | rfl | rfl | rfl | rfl | rfl | hk2
  all_goals
    go_enter Tryz.func19, Tryz.ntmps19
    go_wp2
    go_ret
    exact ⟨ret_bool (by first | rfl | (symm; simp; omega) | (rw [Bool.eq_iff_iff]; simp; omega)), rfl⟩
set_option maxHeartbeats 1000000 in
theorem elemR_is (k : Int) (w : World) (p : Bool) (hk : 0 ≤ k ∧ k < 256) (h : p = decide (1 ≤ k ∧ k ≤ 19)) : Calls Tryz.prog 16 #[.int .u8 k] w fun e w' => e = .returned (.bool p) ∧ w' = w := by
  subst h
  rcases kinds k hk with rfl | rfl | rfl | rfl | rfl | rfl | rfl | rfl | rfl | rfl | rfl | rfl | rfl | rfl | rfl | rfl | rfl | rfl | rfl | rfl | hk2
  all_goals
    go_enter Tryz.func16, Tryz.ntmps16
    go_wp2
    go_ret
    exact ⟨ret_bool (by first | rfl | (symm; simp; omega) | (rw [Bool.eq_iff_iff]; simp; omega)), rfl⟩
set_option maxHeartbeats 1000000 in
theorem IntegerR_is (k : Int) (w : World) (p : Bool) (hk : 0 ≤ k ∧ k < 256) (h : p = decide (2 ≤ k ∧ k ≤ 9)) : Calls Tryz.prog 40 #[.int .u8 k] w fun e w' => e = .returned (.bool p) ∧ w' = w := by
  subst h
  rcases kinds k hk with rfl | rfl | rfl | rfl | rfl | rfl | rfl | rfl | rfl | rfl | rfl | rfl | rfl | rfl | rfl | rfl | rfl | rfl | rfl | rfl | hk2
  all_goals
    go_enter Tryz.func40, Tryz.ntmps40
    go_wp2
    go_ret
    exact ⟨ret_bool (by first | rfl | (symm; simp; omega) | (rw [Bool.eq_iff_iff]; simp; omega)), rfl⟩
def widN (k : Int) : Int := if k = 2 ∨ k = 6 ∨ k = 10 then 8 else if k = 3 ∨ k = 7 ∨ k = 11 then 16 else if k = 4 ∨ k = 8 ∨ k = 12 then 32 else if k = 5 ∨ k = 9 ∨ k = 13 then 64 else 0
set_option maxHeartbeats 1000000 in
theorem WidthR_is (k : Int) (w : World) (hk : 0 ≤ k ∧ k < 256) : Calls Tryz.prog 37 #[.int .u8 k] w fun e w' => e = .returned (.int .i64 (widN k)) ∧ w' = w := by
  rcases kinds k hk with rfl | rfl | rfl | rfl | rfl | rfl | rfl | rfl | rfl | rfl | rfl | rfl | rfl | rfl | rfl | rfl | rfl | rfl | rfl | rfl | hk2
  all_goals
    go_enter Tryz.func37, Tryz.ntmps37
    go_wp2
    go_ret
    exact ⟨ret_int (by first | rfl | (unfold widN; rw [if_neg (by omega), if_neg (by omega), if_neg (by omega), if_neg (by omega)])), rfl⟩
theorem LrealR_s (n : Nat) (w : World) : Calls Tryz.prog 44 #[.float .f64 n] w fun e w' => e = .returned (V 18 (lrealB n) E0) ∧ Below w.heap.size w w' := by
  have hx := call_bits
  cases h : fnan n
  · have g : (FloatKind.f64.format.order n n != some .eq) = false := by rw [order_self_ne, h]
    rw [lrealB_f h]
    clear h
    go_enter Tryz.func44, Tryz.ntmps44
    go_wp2
    exact bodyPost_ret (v := V 18 n E0) (by simp [results, Tryz.results44, go_sem]) rfl ⟨rfl, (Below.refl _ _).alloc (Nat.le_refl _) _⟩
  · have g : (FloatKind.f64.format.order n n != some .eq) = true := by rw [order_self_ne, h]
    rw [lrealB_t h]
    clear h
    go_enter Tryz.func44, Tryz.ntmps44
    go_wp2
    exact bodyPost_ret (v := V 18 9221120237041090561 E0) (by simp [results, Tryz.results44, go_sem]) rfl ⟨rfl, (Below.refl _ _).alloc (Nat.le_refl _) _⟩
set_option maxHeartbeats 400000 in
theorem BoolR_of (p : Bool) (w : World) : Calls Tryz.prog 36 #[.bool p] w fun e w' => e = .returned (V 1 (tb p) E0) ∧ Below w.heap.size w w' := by
  cases p
  · go_enter Tryz.func36, Tryz.ntmps36
    go_wp2
    exact bodyPost_ret (v := V 1 0 E0) (by simp [results, Tryz.results36, go_sem]) rfl ⟨rfl, (Below.refl _ _).alloc (Nat.le_refl _) _⟩
  · go_enter Tryz.func36, Tryz.ntmps36
    go_wp2
    exact bodyPost_ret (v := V 1 1 E0) (by simp [results, Tryz.results36, go_sem]) rfl ⟨rfl, (Below.refl _ _).alloc (Nat.le_refl _) _⟩
end Go.Proofs.YtlaamkfpdompjaaGreatDoor
