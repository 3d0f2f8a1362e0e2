/- Where an instruction may go on, and the register that it sets; and rows of whole numbers compared; no statement of the seat is proved here. -/
import Derived.Test.YtmbbabadlblopaaIrO
namespace Go.Proofs.Ytmbbabadlblopaa
set_option linter.unusedVariables false
open Go.RowKit
section
variable (c a b x d : Int) (c5 c6 c7 c8 c9 : Value) (w : World)
set_option maxHeartbeats 1000000 in
theorem Gives_of : Calls Try.prog 7 #[Iq c a b x d c5 c6 c7 c8 c9] w fun e w' => e = .returned (.int .i64 (gvN c a)) ∧ Below w.heap.size w w' := by
  rcases codes' c with rfl | rfl | rfl | rfl | rfl | rfl | rfl | rfl | rfl | rfl | rfl | rfl | rfl | rfl | rfl | rfl | rfl | rfl | rfl | rfl | rfl | ⟨g1, g2, g3, g4, g5, g6, g7, g8, g9, g10, g11, g12, g13, g14, g15, g16, g17, g20, g21, g22, g23⟩
  all_goals
    go_enter Try.func7, Try.ntmps7
    go_wp2
    go_ret
    exact ⟨by simp [gvN, *], (Below.refl _ _).alloc (Nat.le_refl _) _⟩
set_option maxHeartbeats 1000000 in
theorem GivesR_of : Calls Try.prog 8 #[Iq c a b x d c5 c6 c7 c8 c9] w fun e w' => e = .returned (.int .i64 (gvN c a)) ∧ Below w.heap.size w w' := by
  rcases codes' c with rfl | rfl | rfl | rfl | rfl | rfl | rfl | rfl | rfl | rfl | rfl | rfl | rfl | rfl | rfl | rfl | rfl | rfl | rfl | rfl | rfl | ⟨g1, g2, g3, g4, g5, g6, g7, g8, g9, g10, g11, g12, g13, g14, g15, g16, g17, g20, g21, g22, g23⟩
  all_goals
    go_enter Try.func8, Try.ntmps8
    go_wp2
    go_ret
    exact ⟨by simp [gvN, *], (Below.refl _ _).alloc (Nat.le_refl _) _⟩
theorem nx17 (b n : Int) : nxL 17 b n = if (if n + 1 < b then n + 1 else b) = (if b < n + 1 then n + 1 else b) then [if n + 1 < b then n + 1 else b] else [if n + 1 < b then n + 1 else b, if b < n + 1 then n + 1 else b] := by
  unfold nxL
  rcases Int.lt_trichotomy b (n + 1) with h | h | h
  · simp [h, show ¬ n + 1 < b by omega, show ¬ b = n + 1 by omega]
  · subst h; simp
  · simp [h, show ¬ b < n + 1 by omega, show ¬ n + 1 = b by omega]
theorem nx_gt (b n : Int) (h : n + 1 < b) : nxL 17 b n = [n + 1, b] := by simp [nxL, h, show ¬ b < n + 1 by omega]
theorem nx_eq (b n : Int) (h : n + 1 ≤ b) (g : b ≤ n + 1) : nxL 17 b n = [n + 1] := by simp [nxL, show ¬ n + 1 < b by omega, show ¬ b < n + 1 by omega]
theorem codes4 (c : Int) : c = 16 ∨ c = 17 ∨ c = 20 ∨ c = 21 ∨ (c ≠ 16 ∧ c ≠ 17 ∧ c ≠ 20 ∧ c ≠ 21) := by omega
set_option maxHeartbeats 1000000 in
theorem Next_of (n : Int) (h0 : 0 ≤ n) (h1 : n ≤ 16384) : Calls Try.prog 9 #[Iq c a b x d c5 c6 c7 c8 c9, .int .i64 n] w (IRes w (nxL c b n)) := by
  rcases codes4 c with rfl | rfl | rfl | rfl | ⟨g1, g2, g3, g4⟩
  all_goals
    go_enter Try.func9, Try.ntmps9
    go_wp2_with (go_at_call 11; refine (pair_of _ _ _).mono ?_; rintro e w1 ⟨v, rfl, hr, hb⟩)
    all_goals
      go_ret
      first
        | exact fin_nil (by simp [nxL, *])
        | exact fin_new (by simp [nxL, *]) (by simp [nxL, *])
        | exact fin_on ⟨v, rfl, hr, hb⟩ (nx17 _ _)
set_option maxHeartbeats 1000000 in
theorem NextR_of (n : Int) (h0 : 0 ≤ n) (h1 : n ≤ 16384) : Calls Try.prog 10 #[Iq c a b x d c5 c6 c7 c8 c9, .int .i64 n] w (IRes w (nxL c b n)) := by
  rcases codes4 c with rfl | rfl | rfl | rfl | ⟨g1, g2, g3, g4⟩
  all_goals
    go_enter Try.func10, Try.ntmps10
    go_wp2
    all_goals
      go_ret
      first
        | (exfalso; rename_i h; simp only [beq_iff_eq] at h; omega)
        | exact fin_nil (by simp [nxL, *])
        | exact fin_new (by rw [nx_gt _ _ (by assumption)]; rfl) (by rw [nx_gt _ _ (by assumption)]; rfl)
        | exact fin_new (by rw [nx_eq _ _ (by assumption) (by assumption)]; rfl) (by rw [nx_eq _ _ (by assumption) (by assumption)]; rfl)
        | exact fin_new (by simp_all [nxL]) (by simp_all [nxL])
end
end Go.Proofs.Ytmbbabadlblopaa
