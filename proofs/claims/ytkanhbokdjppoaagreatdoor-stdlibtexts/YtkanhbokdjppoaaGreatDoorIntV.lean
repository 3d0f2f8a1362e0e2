/- What the value package's Int answers; no statement of the seat is proved here. -/
import Derived.Test.YtkanhbokdjppoaaGreatDoorTurnS
namespace Go.Proofs.YtkanhbokdjppoaaGreatDoor
set_option linter.unusedVariables false
open Go.RowKit
set_option maxHeartbeats 1000000 in
theorem hasNumbers_is (k : Int) (w : World) (p : Bool) (hk : 0 ≤ k ∧ k < 256) (h : p = decide (1 ≤ k ∧ k ≤ 17)) : Calls Tryz.prog 155 #[.int .u8 k] w fun e w' => e = .returned (.bool p) ∧ w' = w := by
  subst h
  rcases kinds k hk with rfl | rfl | rfl | rfl | rfl | rfl | rfl | rfl | rfl | rfl | rfl | rfl | rfl | rfl | rfl | rfl | rfl | rfl | rfl | rfl | hk2
  all_goals
    go_enter Tryz.func155, Tryz.ntmps155
    go_wp2
    go_ret
    exact ⟨ret_bool (by first | rfl | (symm; simp; omega)), rfl⟩
/-- The box of a result, behind a call. -/
theorem step_zero {w w1 : World} {u : TypeId} (hb : Below (w.alloc (.cells #[.int .u8 0, .int .u64 0, .string ⟨#[]⟩] u)).heap.size (w.alloc (.cells #[.int .u8 0, .int .u64 0, .string ⟨#[]⟩] u)) w1) :
    w.heap.size < w1.heap.size ∧ w1.cell? ⟨w.heap.size, 0, none⟩ = some (.int .u8 0) ∧ w1.cell? ⟨w.heap.size, 1, none⟩ = some (.int .u64 0) ∧ w1.cell? ⟨w.heap.size, 2, none⟩ = some (.string ⟨#[]⟩) ∧
    (∀ o, w1.frozen? ⟨w.heap.size, o, none⟩ = false) ∧ Below w.heap.size w w1 := by
  have hs := hb.size
  simp only [World.size_alloc] at hs
  refine ⟨by omega, ?_, ?_, ?_, ?_, ((Below.refl _ _).alloc (Nat.le_refl _) _).trans (hb.mono (by simp))⟩
  · rw [hb.cell (p := ⟨w.heap.size, 0, none⟩) (by simp)]; simp
  · rw [hb.cell (p := ⟨w.heap.size, 1, none⟩) (by simp)]; simp
  · rw [hb.cell (p := ⟨w.heap.size, 2, none⟩) (by simp)]; simp
  · intro o
    rw [hb.frozen (p := ⟨w.heap.size, o, none⟩) (by simp)]; simp
theorem step1 {W w2 : World} {h : Nat} (hb : Below W.heap.size W w2) (z0 : h < W.heap.size) :
    h < w2.heap.size ∧ (∀ o, w2.cell? ⟨h, o, none⟩ = W.cell? ⟨h, o, none⟩) ∧ (∀ o, w2.frozen? ⟨h, o, none⟩ = W.frozen? ⟨h, o, none⟩) :=
  ⟨Nat.lt_of_lt_of_le z0 hb.size, fun o => hb.cell (p := ⟨h, o, none⟩) z0, fun o => hb.frozen (p := ⟨h, o, none⟩) z0⟩
/-- The value of a kind whose number is n, or the fault. -/
def intR (k n : Int) : Value :=
  if 1 ≤ k ∧ k ≤ 17 then (if fitOk k n then .tuple #[V k (n % 18446744073709551616) E0, .int .i64 0] else .tuple #[V 0 0 E0, .int .i64 1]) else .tuple #[V 0 0 E0, .int .i64 8]
section
variable (k n : Int) (w : World)
set_option maxHeartbeats 1000000 in
theorem Int_x (hk : 0 ≤ k ∧ k < 256) (c : ¬ (1 ≤ k ∧ k ≤ 17)) : Calls Tryz.prog 122 #[.int .u8 k, .int .i64 n] w fun e w' => e = .returned (.tuple #[V 0 0 E0, .int .i64 8]) ∧ Below w.heap.size w w' := by
  have C : Hid (¬ (1 ≤ k ∧ k ≤ 17)) := c
  clear c
  go_enter Tryz.func122, Tryz.ntmps122
  go_wp2_with (first | (go_at_call 155; refine (hasNumbers_is _ _ false hk (by symm; simpa using C.out)).mono ?_; rintro e w' ⟨rfl, rfl⟩))
  exact bodyPost_ret (v := .tuple #[V 0 0 E0, .int .i64 8]) (by simp [results, Tryz.results122, go_sem]) rfl ⟨rfl, (Below.refl _ _).alloc (Nat.le_refl _) _⟩
set_option maxHeartbeats 1000000 in
theorem Int_yes (hk : 0 ≤ k ∧ k < 256) (c : 1 ≤ k ∧ k ≤ 17) (g : -9223372036854775808 ≤ n ∧ n < 9223372036854775808) (f : fitOk k n = true) : Calls Tryz.prog 122 #[.int .u8 k, .int .i64 n] w fun e w' => e = .returned (.tuple #[V k (n % 18446744073709551616) E0, .int .i64 0]) ∧ Below w.heap.size w w' := by
  have C : Hid (1 ≤ k ∧ k ≤ 17) := c
  have F : Hid (fitOk k n = true) := f
  clear c f
  go_enter Tryz.func122, Tryz.ntmps122
  go_wp2_with (first | (go_at_call 155; refine (hasNumbers_is _ _ true hk (by symm; simpa using C.out)).mono ?_; rintro e w' ⟨rfl, rfl⟩) | (go_at_call 156; refine (numberFrom_of _ _ g).mono ?_; rintro e w1 ⟨rfl, hb⟩; obtain ⟨z0, q0, q1, q2, q3, HB⟩ := step_zero hb; clear hb) | (go_at_call 148; refine (fitted_yes _ _ _ _ hk (by omega) F.out).mono ?_; rintro e w2 ⟨rfl, hb2⟩; obtain ⟨y0, n0, n1⟩ := step1 hb2 z0))
  exact bodyPost_ret (v := .tuple #[V k (n % 18446744073709551616) E0, .int .i64 0]) (by simp [results, Tryz.results122, go_sem, n0, q0, q1, q2]) rfl ⟨rfl, (((HB.trans (hb2.mono (Nat.le_of_lt z0))).setCell (by simp) _).setCell (by simp) _).setCell (by simp) _⟩
set_option maxHeartbeats 1000000 in
theorem Int_no (hk : 0 ≤ k ∧ k < 256) (c : 1 ≤ k ∧ k ≤ 17) (g : -9223372036854775808 ≤ n ∧ n < 9223372036854775808) (f : fitOk k n = false) : Calls Tryz.prog 122 #[.int .u8 k, .int .i64 n] w fun e w' => e = .returned (.tuple #[V 0 0 E0, .int .i64 1]) ∧ Below w.heap.size w w' := by
  have C : Hid (1 ≤ k ∧ k ≤ 17) := c
  have F : Hid (fitOk k n = false) := f
  clear c f
  go_enter Tryz.func122, Tryz.ntmps122
  go_wp2_with (first | (go_at_call 155; refine (hasNumbers_is _ _ true hk (by symm; simpa using C.out)).mono ?_; rintro e w' ⟨rfl, rfl⟩) | (go_at_call 156; refine (numberFrom_of _ _ g).mono ?_; rintro e w1 ⟨rfl, hb⟩; obtain ⟨z0, q0, q1, q2, q3, HB⟩ := step_zero hb; clear hb) | (go_at_call 148; refine (fitted_no _ _ _ _ hk (by omega) F.out).mono ?_; rintro e w2 ⟨rfl, hb2⟩; obtain ⟨y0, n0, n1⟩ := step1 hb2 z0))
  exact bodyPost_ret (v := .tuple #[V 0 0 E0, .int .i64 1]) (by simp [results, Tryz.results122, go_sem, n0, q0, q1, q2]) rfl ⟨rfl, (((HB.trans (hb2.mono (Nat.le_of_lt z0))).setCell (by simp) _).setCell (by simp) _).setCell (by simp) _⟩
theorem Int_of (hk : 0 ≤ k ∧ k < 256) (g : -9223372036854775808 ≤ n ∧ n < 9223372036854775808) : Calls Tryz.prog 122 #[.int .u8 k, .int .i64 n] w fun e w' => e = .returned (intR k n) ∧ Below w.heap.size w w' := by
  unfold intR
  by_cases c : 1 ≤ k ∧ k ≤ 17
  · rw [if_pos c]
    cases f : fitOk k n
    · rw [if_neg (by simp)]; exact Int_no k n w hk c g f
    · rw [if_pos rfl]; exact Int_yes k n w hk c g f
  · rw [if_neg c]; exact Int_x k n w hk c
end
end Go.Proofs.YtkanhbokdjppoaaGreatDoor
