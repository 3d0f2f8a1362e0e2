/- What the document's sized answers, exactly; no statement of the seat is proved here. -/
import Derived.Test.YtlaamkfpdompjaaGreatDoorRdT
import Derived.Test.YtlaamkfpdompjaaGreatDoorBkT
namespace Go.Proofs.YtlaamkfpdompjaaGreatDoor
set_option linter.unusedVariables false
open Go.RowKit
/-- A number fits just if its bits may be, and say it. -/
theorem fit_is (k N : Int) (hk : 2 ≤ k ∧ k ≤ 13) (hn : num k (N % 18446744073709551616) = N) : fitOk k N = mayW k (N % 18446744073709551616) := by
  unfold fitOk
  rw [hn]
  have : may3 k (N % 18446744073709551616) E0 = mayW k (N % 18446744073709551616) := by
    rcases (by omega : k = 2 ∨ k = 3 ∨ k = 4 ∨ k = 5 ∨ k = 6 ∨ k = 7 ∨ k = 8 ∨ k = 9 ∨ k = 10 ∨ k = 11 ∨ k = 12 ∨ k = 13) with rfl | rfl | rfl | rfl | rfl | rfl | rfl | rfl | rfl | rfl | rfl | rfl <;> simp [may3]
  rw [this]
  simp
theorem fit_no (k N : Int) (hn : ¬ num k (N % 18446744073709551616) = N) : fitOk k N = false := by
  unfold fitOk
  rw [decide_eq_false hn, Bool.and_false]
/-- A number as a value of a kind, or the fault. -/
def szV (k N : Int) : Value := if fitOk k N = true then .tuple #[V k (N % 18446744073709551616) E0, .int .i64 0] else .tuple #[V 0 0 E0, .int .i64 7]
theorem szV_no (k N : Int) (h : fitOk k N = false) : szV k N = .tuple #[V 0 0 E0, .int .i64 7] := by unfold szV; rw [h]; rfl
theorem szV_made (k N : Int) (h : fitOk k N = mayW k (N % 18446744073709551616)) : szV k N = RV (mayW k (N % 18446744073709551616)) k (N % 18446744073709551616) 7 := by
  unfold szV
  rw [h]
  cases mayW k (N % 18446744073709551616) <;> rfl
section
variable (k : Int) (w : World)
set_option maxRecDepth 100000 in
set_option maxHeartbeats 2000000 in
theorem sizedR_neg (z : Int) (hl : 2 ≤ k ∧ k ≤ 13) (z0 : 0 < z) (z1 : z < 18446744073709551616) :
    Calls Tryz.prog 39 #[.int .u8 k, .int .u64 z, .bool true] w fun e w' => e = .returned (szV k (-z)) ∧ Below w.heap.size w w' := by
  have hk : 0 ≤ k ∧ k < 256 := by omega
  by_cases sg : k ≤ 5
  · by_cases big : z ≤ 9223372036854775808
    · have hn : num k ((-z) % 18446744073709551616) = -z := by rw [num_s (by omega)]; unfold wrap64; omega
      rw [szV_made k (-z) (fit_is k (-z) hl hn)]
      have eb : IntKind.u64.wrap (-z) = (-z) % 18446744073709551616 := by rw [IntKind.wrap_u64]
      have MD0 : Hid _ := fun w => made_of k ((-z) % 18446744073709551616) 7 w (by omega) (by omega) hk
      obtain ⟨k', b', g, eq, hg⟩ := rv_form (mayW k ((-z) % 18446744073709551616)) k ((-z) % 18446744073709551616)
      rw [eq] at MD0
      rw [eq]
      have MD : Hid (∀ w, Calls Tryz.prog 42 #[.int .u8 k, .int .u64 ((-z) % 18446744073709551616), .int .i64 7] w fun e w' => e = .returned (.tuple #[V k' b' E0, .int .i64 g]) ∧ Below w.heap.size w w') := MD0.out
      clear eq hg MD0 hn
      generalize (-z) % 18446744073709551616 = B at *
      go_enter Tryz.func39, Tryz.ntmps39
      go_wp2_with (first
        | (go_at_call 43; refine (SignedR_is k _ true hk (by symm; simp; omega)).mono ?_; rintro e w2 ⟨rfl, rfl⟩)
        | (go_at_call 42; refine (MD.out _).mono ?_; rintro e w4 ⟨rfl, hb4⟩; obtain ⟨y0, p0, p1, p2, p6, PB⟩ := boxD hb4; clear hb4))
      exact bodyPost_ret (v := .tuple #[V k' b' E0, .int .i64 g]) (by simp [results, Tryz.results39, go_sem, p0, p1, p2]) rfl ⟨rfl, ((PB.setCell (by simp) _).setCell (by simp) _).setCell (by simp) _⟩
    · rw [szV_no k (-z) (fit_no k (-z) (by rw [num_s (by omega)]; unfold wrap64; omega))]
      go_enter Tryz.func39, Tryz.ntmps39
      go_wp2_with (first
        | (go_at_call 43; refine (SignedR_is k _ true hk (by symm; simp; omega)).mono ?_; rintro e w2 ⟨rfl, rfl⟩))
      exact bodyPost_ret (v := .tuple #[V 0 0 E0, .int .i64 7]) (by simp [results, Tryz.results39, go_sem]) rfl ⟨rfl, by go_grown⟩
  · rw [szV_no k (-z) (fit_no k (-z) (by rw [num_u (by omega)]; omega))]
    go_enter Tryz.func39, Tryz.ntmps39
    go_wp2_with (first
      | (go_at_call 43; refine (SignedR_is k _ false hk (by symm; simp; omega)).mono ?_; rintro e w2 ⟨rfl, rfl⟩))
    exact bodyPost_ret (v := .tuple #[V 0 0 E0, .int .i64 7]) (by simp [results, Tryz.results39, go_sem]) rfl ⟨rfl, by go_grown⟩
set_option maxRecDepth 100000 in
set_option maxHeartbeats 2000000 in
theorem sizedR_pos (N : Int) (hl : 2 ≤ k ∧ k ≤ 13) (N0 : 0 ≤ N) (N1 : N < 18446744073709551616) :
    Calls Tryz.prog 39 #[.int .u8 k, .int .u64 N, .bool false] w fun e w' => e = .returned (szV k N) ∧ Below w.heap.size w w' := by
  have hk : 0 ≤ k ∧ k < 256 := by omega
  have eN : N % 18446744073709551616 = N := by omega
  have MD0 : Hid _ := fun w => made_of k N 7 w N0 N1 hk
  obtain ⟨k', b', g, eq, hg⟩ := rv_form (mayW k N) k N
  rw [eq] at MD0
  have MD : Hid (∀ w, Calls Tryz.prog 42 #[.int .u8 k, .int .u64 N, .int .i64 7] w fun e w' => e = .returned (.tuple #[V k' b' E0, .int .i64 g]) ∧ Below w.heap.size w w') := MD0.out
  clear MD0 hg
  by_cases sg : k ≤ 5
  · by_cases big : 9223372036854775808 ≤ N
    · rw [szV_no k N (fit_no k N (by rw [eN, num_s (by omega)]; unfold wrap64; omega))]
      clear eN eq
      go_enter Tryz.func39, Tryz.ntmps39
      go_wp2_with (first
        | (go_at_call 43; refine (SignedR_is k _ true hk (by symm; simp; omega)).mono ?_; rintro e w2 ⟨rfl, rfl⟩))
      exact bodyPost_ret (v := .tuple #[V 0 0 E0, .int .i64 7]) (by simp [results, Tryz.results39, go_sem]) rfl ⟨rfl, by go_grown⟩
    · rw [szV_made k N (fit_is k N hl (by rw [eN, num_s (by omega)]; unfold wrap64; omega)), eN, eq]
      clear eN eq
      go_enter Tryz.func39, Tryz.ntmps39
      go_wp2_with (first
        | (go_at_call 43; refine (SignedR_is k _ true hk (by symm; simp; omega)).mono ?_; rintro e w2 ⟨rfl, rfl⟩)
        | (go_at_call 42; refine (MD.out _).mono ?_; rintro e w4 ⟨rfl, hb4⟩; obtain ⟨y0, p0, p1, p2, p6, PB⟩ := boxD hb4; clear hb4))
      exact bodyPost_ret (v := .tuple #[V k' b' E0, .int .i64 g]) (by simp [results, Tryz.results39, go_sem, p0, p1, p2]) rfl ⟨rfl, ((PB.setCell (by simp) _).setCell (by simp) _).setCell (by simp) _⟩
  · rw [szV_made k N (fit_is k N hl (by rw [eN, num_u (by omega)])), eN, eq]
    clear eN eq
    go_enter Tryz.func39, Tryz.ntmps39
    go_wp2_with (first
      | (go_at_call 43; refine (SignedR_is k _ false hk (by symm; simp; omega)).mono ?_; rintro e w2 ⟨rfl, rfl⟩)
      | (go_at_call 42; refine (MD.out _).mono ?_; rintro e w4 ⟨rfl, hb4⟩; obtain ⟨y0, p0, p1, p2, p6, PB⟩ := boxD hb4; clear hb4))
    exact bodyPost_ret (v := .tuple #[V k' b' E0, .int .i64 g]) (by simp [results, Tryz.results39, go_sem, p0, p1, p2]) rfl ⟨rfl, ((PB.setCell (by simp) _).setCell (by simp) _).setCell (by simp) _⟩
end
end Go.Proofs.YtlaamkfpdompjaaGreatDoor
