/- What the document's Int answers, for every kind and number; no statement of the seat is proved here. -/
import Derived.Test.YtkanhbokdjppoaaGreatDoorIntV
namespace Go.Proofs.YtkanhbokdjppoaaGreatDoor
set_option linter.unusedVariables false
open Go.RowKit
section
variable (k n : Int) (w : World)
theorem fitRV_u {k n : Int} (c : 1 ≤ k ∧ k ≤ 17) (d : ¬ (2 ≤ k ∧ k ≤ 5 ∨ k = 14)) (h : n < 0) (g : -9223372036854775808 ≤ n) : fitOk k n = false := by
  unfold fitOk; rw [num_u d]; simp; omega
theorem fit_m {k n : Int} (c : 1 ≤ k ∧ k ≤ 17) (d : (2 ≤ k ∧ k ≤ 5 ∨ k = 14) ∨ 0 ≤ n) (g : -9223372036854775808 ≤ n ∧ n < 9223372036854775808) : fitOk k n = may3 k (n % 18446744073709551616) E0 := by
  unfold fitOk
  have e : num k (n % 18446744073709551616) = n := by
    by_cases s : 2 ≤ k ∧ k ≤ 5 ∨ k = 14
    · rw [num_s s]; unfold wrap64; omega
    · rw [num_u s]; omega
  rw [e]; simp
set_option maxHeartbeats 4000000 in
theorem IntR_xx (h : 19 < k) : Calls Tryz.prog 18 #[.int .u8 k, .int .i64 n] w fun e w' => e = .returned (.tuple #[V 0 0 E0, .int .i64 8]) ∧ Below w.heap.size w w' := by
  have e1 : (k != 1) = true := by simp; omega
  have e2 : decide (k ≤ 17) = false := by simp; omega
  go_enter Tryz.func18, Tryz.ntmps18
  go_wp2
  exact bodyPost_ret (v := .tuple #[V 0 0 E0, .int .i64 8]) (by simp [results, Tryz.results18, go_sem]) rfl ⟨rfl, (Below.refl _ _).alloc (Nat.le_refl _) _⟩
set_option maxHeartbeats 4000000 in
theorem IntR_x (hk : 0 ≤ k ∧ k < 256) (c : ¬ (1 ≤ k ∧ k ≤ 17)) : Calls Tryz.prog 18 #[.int .u8 k, .int .i64 n] w fun e w' => e = .returned (.tuple #[V 0 0 E0, .int .i64 8]) ∧ Below w.heap.size w w' := by
  rcases kinds k hk with rfl | rfl | rfl | rfl | rfl | rfl | rfl | rfl | rfl | rfl | rfl | rfl | rfl | rfl | rfl | rfl | rfl | rfl | rfl | rfl | hk2
  all_goals first | (exfalso; omega) | exact IntR_xx k n w hk2 | skip
  all_goals
    go_enter Tryz.func18, Tryz.ntmps18
    go_wp2
    exact bodyPost_ret (v := .tuple #[V 0 0 E0, .int .i64 8]) (by simp [results, Tryz.results18, go_sem]) rfl ⟨rfl, (Below.refl _ _).alloc (Nat.le_refl _) _⟩
set_option maxHeartbeats 4000000 in
theorem IntR_u (hk : 0 ≤ k ∧ k < 256) (c : 1 ≤ k ∧ k ≤ 17) (d : ¬ (2 ≤ k ∧ k ≤ 5 ∨ k = 14)) (h : n < 0) : Calls Tryz.prog 18 #[.int .u8 k, .int .i64 n] w fun e w' => e = .returned (.tuple #[V 0 0 E0, .int .i64 1]) ∧ Below w.heap.size w w' := by
  rcases kinds k hk with rfl | rfl | rfl | rfl | rfl | rfl | rfl | rfl | rfl | rfl | rfl | rfl | rfl | rfl | rfl | rfl | rfl | rfl | rfl | rfl | hk2
  all_goals first | (exfalso; omega) | skip
  all_goals
    clear d
    go_enter Tryz.func18, Tryz.ntmps18
    go_wp2
    exact bodyPost_ret (v := .tuple #[V 0 0 E0, .int .i64 1]) (by simp [results, Tryz.results18, go_sem]) rfl ⟨rfl, ((Below.refl _ _).alloc (Nat.le_refl _) _).alloc (by simp) _⟩
/-- A result's box and a value's, behind a call. -/
theorem step_zv {w w1 : World} {k b : Int} {t u : TypeId} (hb : Below ((w.alloc (.cells #[.int .u8 0, .int .u64 0, .string ⟨#[]⟩] u)).alloc (.cells #[.int .u8 k, .int .u64 b, .string ⟨#[]⟩] t)).heap.size ((w.alloc (.cells #[.int .u8 0, .int .u64 0, .string ⟨#[]⟩] u)).alloc (.cells #[.int .u8 k, .int .u64 b, .string ⟨#[]⟩] t)) w1) :
    w.heap.size < w1.heap.size ∧ w.heap.size + 1 < w1.heap.size ∧ w1.cell? ⟨w.heap.size, 0, none⟩ = some (.int .u8 0) ∧ w1.cell? ⟨w.heap.size, 1, none⟩ = some (.int .u64 0) ∧ w1.cell? ⟨w.heap.size, 2, none⟩ = some (.string ⟨#[]⟩) ∧
    w1.cell? ⟨w.heap.size + 1, 0, none⟩ = some (.int .u8 k) ∧ w1.cell? ⟨w.heap.size + 1, 1, none⟩ = some (.int .u64 b) ∧ w1.cell? ⟨w.heap.size + 1, 2, none⟩ = some (.string ⟨#[]⟩) ∧
    (∀ o, w1.frozen? ⟨w.heap.size, o, none⟩ = false) ∧ Below w.heap.size w w1 := by
  have hs := hb.size
  simp only [World.size_alloc] at hs
  refine ⟨by omega, by omega, ?_, ?_, ?_, ?_, ?_, ?_, ?_, (((Below.refl _ _).alloc (Nat.le_refl _) _).alloc (by simp) _).trans (hb.mono (by simp; omega))⟩
  · rw [hb.cell (p := ⟨w.heap.size, 0, none⟩) (by simp; omega)]; simp
  · rw [hb.cell (p := ⟨w.heap.size, 1, none⟩) (by simp; omega)]; simp
  · rw [hb.cell (p := ⟨w.heap.size, 2, none⟩) (by simp; omega)]; simp
  · rw [hb.cell (p := ⟨w.heap.size + 1, 0, none⟩) (by simp)]; simp
  · rw [hb.cell (p := ⟨w.heap.size + 1, 1, none⟩) (by simp)]; simp
  · rw [hb.cell (p := ⟨w.heap.size + 1, 2, none⟩) (by simp)]; simp
  · intro o
    rw [hb.frozen (p := ⟨w.heap.size, o, none⟩) (by simp; omega)]; simp [go_sem]
theorem MayR_is (k b : Int) (s : ByteArray) (w : World) (p : Bool) (h0 : 0 ≤ b) (h1 : b < 18446744073709551616) (hk : 0 ≤ k ∧ k < 256) (hs : s.size ≤ maxLen) (h : may3 k b s = p) :
    Calls Tryz.prog 20 #[V k b s] w fun e w' => e = .returned (.bool p) ∧ Below w.heap.size w w' := by
  rw [← h]; exact MayR_of k b s w h0 h1 hk hs
set_option maxHeartbeats 8000000 in
theorem IntR_n_yes (hk : 0 ≤ k ∧ k < 256) (c : 1 ≤ k ∧ k ≤ 17) (h : n < 0) (d : 2 ≤ k ∧ k ≤ 5 ∨ k = 14) (m : may3 k (IntKind.u64.wrap n) E0 = true) : Calls Tryz.prog 18 #[.int .u8 k, .int .i64 n] w fun e w' => e = .returned (.tuple #[V k (IntKind.u64.wrap n) E0, .int .i64 0]) ∧ Below w.heap.size w w' := by
  have b0 : 0 ≤ (IntKind.u64.wrap n) := by rw [IntKind.wrap_u64]; omega
  have b1 : (IntKind.u64.wrap n) < 18446744073709551616 := by rw [IntKind.wrap_u64]; omega
  rcases kinds k hk with rfl | rfl | rfl | rfl | rfl | rfl | rfl | rfl | rfl | rfl | rfl | rfl | rfl | rfl | rfl | rfl | rfl | rfl | rfl | rfl | hk2
  all_goals first | (exfalso; omega) | skip
  all_goals
    have M : Hid _ := m
    clear m
    go_enter Tryz.func18, Tryz.ntmps18
    go_wp2_with (first | (go_at_call 20; refine (MayR_is _ _ _ _ true b0 b1 hk hE0 M.out).mono ?_; rintro e w1 ⟨rfl, hb⟩; obtain ⟨z0, z1, q0, q1, q2, q3, q4, q5, q6, HB⟩ := step_zv hb; clear hb) | go_in)
    exact bodyPost_ret (v := .tuple #[V _ (IntKind.u64.wrap n) E0, .int .i64 0]) (by simp [results, Tryz.results18, go_sem, q0, q1, q2]; try rfl) rfl ⟨rfl, ((HB.setCell (by simp) _).setCell (by simp) _).setCell (by simp) _⟩
set_option maxHeartbeats 8000000 in
theorem IntR_n_no (hk : 0 ≤ k ∧ k < 256) (c : 1 ≤ k ∧ k ≤ 17) (h : n < 0) (d : 2 ≤ k ∧ k ≤ 5 ∨ k = 14) (m : may3 k (IntKind.u64.wrap n) E0 = false) : Calls Tryz.prog 18 #[.int .u8 k, .int .i64 n] w fun e w' => e = .returned (.tuple #[V 0 0 E0, .int .i64 1]) ∧ Below w.heap.size w w' := by
  have b0 : 0 ≤ (IntKind.u64.wrap n) := by rw [IntKind.wrap_u64]; omega
  have b1 : (IntKind.u64.wrap n) < 18446744073709551616 := by rw [IntKind.wrap_u64]; omega
  rcases kinds k hk with rfl | rfl | rfl | rfl | rfl | rfl | rfl | rfl | rfl | rfl | rfl | rfl | rfl | rfl | rfl | rfl | rfl | rfl | rfl | rfl | hk2
  all_goals first | (exfalso; omega) | skip
  all_goals
    have M : Hid _ := m
    clear m
    go_enter Tryz.func18, Tryz.ntmps18
    go_wp2_with (first | (go_at_call 20; refine (MayR_is _ _ _ _ false b0 b1 hk hE0 M.out).mono ?_; rintro e w1 ⟨rfl, hb⟩; obtain ⟨z0, z1, q0, q1, q2, q3, q4, q5, q6, HB⟩ := step_zv hb; clear hb) | go_in)
    exact bodyPost_ret (v := .tuple #[V 0 0 E0, .int .i64 1]) (by simp [results, Tryz.results18, go_sem, q0, q1, q2]; try rfl) rfl ⟨rfl, ((HB.setCell (by simp) _).setCell (by simp) _).setCell (by simp) _⟩
set_option maxHeartbeats 8000000 in
theorem IntR_p_yes (hk : 0 ≤ k ∧ k < 256) (c : 1 ≤ k ∧ k ≤ 17) (h : 0 ≤ n) (h9 : n < 9223372036854775808) (m : may3 k n E0 = true) : Calls Tryz.prog 18 #[.int .u8 k, .int .i64 n] w fun e w' => e = .returned (.tuple #[V k n E0, .int .i64 0]) ∧ Below w.heap.size w w' := by
  have b0 : 0 ≤ n := by omega
  have b1 : n < 18446744073709551616 := by omega
  rcases kinds k hk with rfl | rfl | rfl | rfl | rfl | rfl | rfl | rfl | rfl | rfl | rfl | rfl | rfl | rfl | rfl | rfl | rfl | rfl | rfl | rfl | hk2
  all_goals first | (exfalso; omega) | skip
  all_goals
    have M : Hid _ := m
    clear m
    go_enter Tryz.func18, Tryz.ntmps18
    go_wp2_with (first | (go_at_call 20; refine (MayR_is _ _ _ _ true b0 b1 hk hE0 M.out).mono ?_; rintro e w1 ⟨rfl, hb⟩; obtain ⟨z0, z1, q0, q1, q2, q3, q4, q5, q6, HB⟩ := step_zv hb; clear hb) | go_in)
    exact bodyPost_ret (v := .tuple #[V _ n E0, .int .i64 0]) (by simp [results, Tryz.results18, go_sem, q0, q1, q2]; try rfl) rfl ⟨rfl, ((HB.setCell (by simp) _).setCell (by simp) _).setCell (by simp) _⟩
set_option maxHeartbeats 8000000 in
theorem IntR_p_no (hk : 0 ≤ k ∧ k < 256) (c : 1 ≤ k ∧ k ≤ 17) (h : 0 ≤ n) (h9 : n < 9223372036854775808) (m : may3 k n E0 = false) : Calls Tryz.prog 18 #[.int .u8 k, .int .i64 n] w fun e w' => e = .returned (.tuple #[V 0 0 E0, .int .i64 1]) ∧ Below w.heap.size w w' := by
  have b0 : 0 ≤ n := by omega
  have b1 : n < 18446744073709551616 := by omega
  rcases kinds k hk with rfl | rfl | rfl | rfl | rfl | rfl | rfl | rfl | rfl | rfl | rfl | rfl | rfl | rfl | rfl | rfl | rfl | rfl | rfl | rfl | hk2
  all_goals first | (exfalso; omega) | skip
  all_goals
    have M : Hid _ := m
    clear m
    go_enter Tryz.func18, Tryz.ntmps18
    go_wp2_with (first | (go_at_call 20; refine (MayR_is _ _ _ _ false b0 b1 hk hE0 M.out).mono ?_; rintro e w1 ⟨rfl, hb⟩; obtain ⟨z0, z1, q0, q1, q2, q3, q4, q5, q6, HB⟩ := step_zv hb; clear hb) | go_in)
    exact bodyPost_ret (v := .tuple #[V 0 0 E0, .int .i64 1]) (by simp [results, Tryz.results18, go_sem, q0, q1, q2]; try rfl) rfl ⟨rfl, ((HB.setCell (by simp) _).setCell (by simp) _).setCell (by simp) _⟩
theorem IntR_of (hk : 0 ≤ k ∧ k < 256) (g : -9223372036854775808 ≤ n ∧ n < 9223372036854775808) : Calls Tryz.prog 18 #[.int .u8 k, .int .i64 n] w fun e w' => e = .returned (intR k n) ∧ Below w.heap.size w w' := by
  unfold intR
  by_cases c : 1 ≤ k ∧ k ≤ 17
  · rw [if_pos c]
    by_cases h : n < 0
    · by_cases d : 2 ≤ k ∧ k ≤ 5 ∨ k = 14
      · rw [fit_m c (.inl d) g, ← IntKind.wrap_u64]
        cases m : may3 k (IntKind.u64.wrap n) E0
        · rw [if_neg (by simp)]; exact IntR_n_no k n w hk c h d m
        · rw [if_pos rfl]; exact IntR_n_yes k n w hk c h d m
      · rw [fitRV_u c d h g.1, if_neg (by simp)]; exact IntR_u k n w hk c d h
    · have e : n % 18446744073709551616 = n := by omega
      rw [fit_m c (.inr (by omega)) g, e]
      cases m : may3 k n E0
      · rw [if_neg (by simp)]; exact IntR_p_no k n w hk c (by omega) g.2 m
      · rw [if_pos rfl]; exact IntR_p_yes k n w hk c (by omega) g.2 m
  · rw [if_neg c]; exact IntR_x k n w hk c
end
end Go.Proofs.YtkanhbokdjppoaaGreatDoor
