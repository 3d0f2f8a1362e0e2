/- Both Params, for every name; no statement of the seat is proved here. -/
import Derived.Test.YtkanhbokdjppoaaGreatDoorNmJ1
import Derived.Test.YtkanhbokdjppoaaGreatDoorNmJ2
import Derived.Test.YtkanhbokdjppoaaGreatDoorNmJ3
import Derived.Test.YtkanhbokdjppoaaGreatDoorNmD
import Derived.Test.YtkanhbokdjppoaaGreatDoorStdN
namespace Go.Proofs.YtkanhbokdjppoaaGreatDoor
set_option linter.unusedVariables false
open Go.RowKit
theorem least_of (p : Nat → Bool) : ∀ m, (∃ k, 1 ≤ k ∧ k < m ∧ p k = true) → ∃ K, 1 ≤ K ∧ K < m ∧ p K = true ∧ ∀ k, 1 ≤ k → k < K → p k = false
  | 0, h => by obtain ⟨k, _, h, _⟩ := h; omega
  | m + 1, h => by
    by_cases g : ∃ k, 1 ≤ k ∧ k < m ∧ p k = true
    · obtain ⟨K, a, b, c, d⟩ := least_of p m g
      exact ⟨K, a, by omega, c, d⟩
    · obtain ⟨k, a, b, c⟩ := h
      obtain rfl : k = m := by
        rcases Nat.lt_or_ge k m with q | q
        · exact absurd ⟨k, a, q, c⟩ g
        · omega
      refine ⟨k, a, b, c, fun j h1 h2 => ?_⟩
      rcases e : p j with _ | _
      · rfl
      · exact absurd ⟨j, h1, h2, e⟩ g
theorem ba_same {a b : ByteArray} (h : (a.toList == b.toList) = true) : a = b := by
  have e : a.toList = b.toList := by simpa using h
  rw [ByteArray.toList_eq, ByteArray.toList_eq] at e
  exact ByteArray.ext (Array.toList_inj.1 e)
theorem pmA_T (K : Nat) (h1 : 1 ≤ K) (h2 : K < 37) : pmA (K : Int) = pmT K := by unfold pmA; rw [if_pos (by omega)]; simp
theorem pmA_C (z : Int) (h : 65 ≤ z ∧ z ≤ 83) : pmA z = ([⟨#[73, 78]⟩], 0) := by unfold pmA; rw [if_neg (by omega), if_pos h]
theorem pmA_0 : pmA 0 = ([], 0) := by unfold pmA; rw [if_neg (by omega), if_neg (by omega)]
theorem ParamsR_K (s : ByteArray) (y n : Int) (w : World) (K : Nat) (h1 : 1 ≤ K) (h2 : K < 37) (hN : Calls Tryz.prog 25 #[.string s] w fun e w' => e = .returned (.tuple #[.int .i64 K, .int .u8 y]) ∧ Below w.heap.size w w') :
    Calls Tryz.prog 12 #[.string s, .int .i64 n] w (PmX w (pmT K).1 (pmT K).2 n) := by
  match K, h1, h2 with
  | 1, _, _ => exact ParamsR_1 s y n w hN
  | 2, _, _ => exact ParamsR_2 s y n w hN
  | 3, _, _ => exact ParamsR_3 s y n w hN
  | 4, _, _ => exact ParamsR_4 s y n w hN
  | 5, _, _ => exact ParamsR_5 s y n w hN
  | 6, _, _ => exact ParamsR_6 s y n w hN
  | 7, _, _ => exact ParamsR_7 s y n w hN
  | 8, _, _ => exact ParamsR_8 s y n w hN
  | 9, _, _ => exact ParamsR_9 s y n w hN
  | 10, _, _ => exact ParamsR_10 s y n w hN
  | 11, _, _ => exact ParamsR_11 s y n w hN
  | 12, _, _ => exact ParamsR_12 s y n w hN
  | 13, _, _ => exact ParamsR_13 s y n w hN
  | 14, _, _ => exact ParamsR_14 s y n w hN
  | 15, _, _ => exact ParamsR_15 s y n w hN
  | 16, _, _ => exact ParamsR_16 s y n w hN
  | 17, _, _ => exact ParamsR_17 s y n w hN
  | 18, _, _ => exact ParamsR_18 s y n w hN
  | 19, _, _ => exact ParamsR_19 s y n w hN
  | 20, _, _ => exact ParamsR_20 s y n w hN
  | 21, _, _ => exact ParamsR_21 s y n w hN
  | 22, _, _ => exact ParamsR_22 s y n w hN
  | 23, _, _ => exact ParamsR_23 s y n w hN
  | 24, _, _ => exact ParamsR_24 s y n w hN
  | 25, _, _ => exact ParamsR_25 s y n w hN
  | 26, _, _ => exact ParamsR_26 s y n w hN
  | 27, _, _ => exact ParamsR_27 s y n w hN
  | 28, _, _ => exact ParamsR_28 s y n w hN
  | 29, _, _ => exact ParamsR_29 s y n w hN
  | 30, _, _ => exact ParamsR_30 s y n w hN
  | 31, _, _ => exact ParamsR_31 s y n w hN
  | 32, _, _ => exact ParamsR_32 s y n w hN
  | 33, _, _ => exact ParamsR_33 s y n w hN
  | 34, _, _ => exact ParamsR_34 s y n w hN
  | 35, _, _ => exact ParamsR_35 s y n w hN
  | 36, _, _ => exact ParamsR_36 s y n w hN
  | m + 37, _, h => omega
theorem cvP_range (s : ByteArray) : (cvP s).1 = 0 ∨ (65 ≤ (cvP s).1 ∧ (cvP s).1 ≤ 83) := by
  unfold cvP
  split
  · exact .inl rfl
  · rename_i i h
    have := kfind_le _ _ _ _ h
    repeat (first | split | (right; constructor <;> (simp only []; omega)) | exact .inl rfl)
/-- Both Params answer alike. -/
theorem prm (s : ByteArray) (n : Int) (hs : s.size < 4294967281) : ∃ (l : List ByteArray) (x : Nat), l.length ≤ 4 ∧ (∀ w, KW w → Asc w → MxL w → Calls Tryz.prog 11 #[.string s, .int .i64 n] w (PmX w l x n)) ∧ (∀ w, Calls Tryz.prog 12 #[.string s, .int .i64 n] w (PmX w l x n)) := by
  by_cases g : ∃ k, 1 ≤ k ∧ k < 37 ∧ ((fuT k).nm.toList == s.toList) = true
  · obtain ⟨K, h1, h2, h3, h4⟩ := least_of (fun k => ((fuT k).nm.toList == s.toList)) 37 g
    refine ⟨(pmA K).1, (pmA K).2, (pm_A K).le, fun w hk ht hm => Params_of s K 0 n w hk ht (named_K K h1 h2 s (ba_same h3) h4 w), fun w => ?_⟩
    rw [pmA_T K h1 h2]
    exact ParamsR_K s 0 n w K h1 h2 (numberR_K K h1 h2 s (ba_same h3) h4 w)
  · have hno : ∀ k, 1 ≤ k → k < 37 → ((fuT k).nm.toList == s.toList) = false := fun k a b => by
      rcases e : ((fuT k).nm.toList == s.toList) with _ | _
      · rfl
      · exact absurd ⟨k, a, b, e⟩ g
    refine ⟨(pmA (cvP s).1).1, (pmA (cvP s).1).2, (pm_A _).le, fun w hk ht hm => Params_of s _ _ n w hk ht (named_cv s hno w hk hm hs), fun w => ?_⟩
    have N := numberR_cv s hno w hs
    rw [cv_same s] at N
    rcases cvP_range s with e | e
    · rw [e] at N ⊢
      rw [pmA_0]
      exact ParamsR_0 s _ n w N
    · rw [pmA_C _ e]
      exact ParamsR_C s _ n w _ e N
end Go.Proofs.YtkanhbokdjppoaaGreatDoor
