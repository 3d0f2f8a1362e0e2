/- The value with which a variable of a kind begins, of the program and of the document; no statement of the seat is proved here. -/
import Derived.Test.YtkanhbokdjppoaaGreatDoorMade
namespace Go.Proofs.YtkanhbokdjppoaaGreatDoor
set_option linter.unusedVariables false
open Go.RowKit
/-- The kind of a kind's zero. -/
def zeroK (k : Int) : Int := if 1 ≤ k ∧ k ≤ 19 then k else 0
set_option maxHeartbeats 400000 in
theorem Zero_of (k : Int) (w : World) : Calls Tryz.prog 149 #[.int .u8 k] w fun e w' => e = .returned (V (zeroK k) 0 E0) ∧ Below w.heap.size w w' := by
  by_cases a : 1 ≤ k
  · by_cases b : k ≤ 19
    · have z : zeroK k = k := by simp [zeroK, a, b]
      rw [z]
      clear z
      go_enter Tryz.func149, Tryz.ntmps149
      go_wp2
      exact bodyPost_ret (v := V k 0 E0) (by simp [results, Tryz.results149, go_sem]) rfl ⟨rfl, (Below.refl _ _).alloc (Nat.le_refl _) _⟩
    · have z : zeroK k = 0 := by simp [zeroK, a, b]
      rw [z]
      clear z
      go_enter Tryz.func149, Tryz.ntmps149
      go_wp2
      exact bodyPost_ret (v := V 0 0 E0) (by simp [results, Tryz.results149, go_sem]) rfl ⟨rfl, (Below.refl _ _).alloc (Nat.le_refl _) _⟩
  · have z : zeroK k = 0 := by simp [zeroK, a]
    rw [z]
    clear z
    go_enter Tryz.func149, Tryz.ntmps149
    go_wp2
    exact bodyPost_ret (v := V 0 0 E0) (by simp [results, Tryz.results149, go_sem]) rfl ⟨rfl, (Below.refl _ _).alloc (Nat.le_refl _) _⟩
set_option maxHeartbeats 400000 in
theorem ZeroR_of (k : Int) (w : World) : Calls Tryz.prog 133 #[.int .u8 k] w fun e w' => e = .returned (V (zeroK k) 0 E0) ∧ Below w.heap.size w w' := by
  by_cases a : 1 ≤ k
  · by_cases b : k ≤ 19
    · have z : zeroK k = k := by simp [zeroK, a, b]
      rw [z]
      clear z
      go_enter Tryz.func133, Tryz.ntmps133
      go_wp2
      exact bodyPost_ret (v := V k 0 E0) (by simp [results, Tryz.results133, go_sem]) rfl ⟨rfl, (Below.refl _ _).alloc (Nat.le_refl _) _⟩
    · have z : zeroK k = 0 := by simp [zeroK, a, b]
      rw [z]
      clear z
      go_enter Tryz.func133, Tryz.ntmps133
      go_wp2
      exact bodyPost_ret (v := V 0 0 E0) (by simp [results, Tryz.results133, go_sem]) rfl ⟨rfl, (Below.refl _ _).alloc (Nat.le_refl _) _⟩
  · have z : zeroK k = 0 := by simp [zeroK, a]
    rw [z]
    clear z
    go_enter Tryz.func133, Tryz.ntmps133
    go_wp2
    exact bodyPost_ret (v := V 0 0 E0) (by simp [results, Tryz.results133, go_sem]) rfl ⟨rfl, (Below.refl _ _).alloc (Nat.le_refl _) _⟩
end Go.Proofs.YtkanhbokdjppoaaGreatDoor
