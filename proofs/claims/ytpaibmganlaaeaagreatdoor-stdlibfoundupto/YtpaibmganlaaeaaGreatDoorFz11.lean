/- What value's conversions of floats, texts and times answer: a value that may be, or a fault; no statement of the seat is proved here. -/
import Derived.Test.YtpaibmganlaaeaaGreatDoorFz10
import Derived.Test.YtpaibmganlaaeaaGreatDoorFz05
import Derived.Test.YtpaibmganlaaeaaGreatDoorFz03
import Derived.Deep.RegionHeld3
namespace Go.Proofs.YtpaibmganlaaeaaGreatDoor
set_option linter.unusedVariables false
open Go.RowKit
/-- A value and a fault: without one it may be, and is of that kind. -/
def CvOk (k : Int) (e : Ending) : Prop := ∃ k' b' s' f, e = .returned (.tuple #[V k' b' s', .int .i64 f]) ∧ (0 ≤ b' ∧ b' < 18446744073709551616) ∧ (0 ≤ k' ∧ k' < 256) ∧ s'.size ≤ maxLen ∧ (f = 0 → may3 k' b' s' = true ∧ k' = k)
theorem cv_fault (k f : Int) (h : f ≠ 0) : CvOk k (.returned (.tuple #[V 0 0 E0, .int .i64 f])) := ⟨0, 0, E0, f, rfl, by omega, by omega, Nat.zero_le _, fun e => absurd e h⟩
theorem cv_fit (k n f : Int) (hk : 0 ≤ k ∧ k < 256) (h : f ≠ 0) : CvOk k (.returned (RV (fitOk k n) k (n % 18446744073709551616) f)) := by
  cases c : fitOk k n
  · rw [← RV_f rfl]
    exact cv_fault k f h
  · rw [← RV_t rfl]
    refine ⟨k, _, E0, 0, rfl, by omega, hk, Nat.zero_le _, fun _ => ⟨?_, rfl⟩⟩
    unfold fitOk at c
    simp only [Bool.and_eq_true] at c
    exact c.1
set_option maxHeartbeats 1000000 in
theorem isInteger_is (k : Int) (w : World) (p : Bool) (hk : 0 ≤ k ∧ k < 256) (h : p = decide (2 ≤ k ∧ k ≤ 9)) : Calls Tryz.prog 133 #[.int .u8 k] w fun e w' => e = .returned (.bool p) ∧ w' = w := by
  subst h
  rcases kinds k hk with rfl | rfl | rfl | rfl | rfl | rfl | rfl | rfl | rfl | rfl | rfl | rfl | rfl | rfl | rfl | rfl | rfl | rfl | rfl | rfl | hk2
  all_goals
    go_enter Tryz.func133, Tryz.ntmps133
    go_wp2
    go_ret
    exact ⟨ret_bool (by first | rfl | (symm; simp; omega)), rfl⟩
set_option maxHeartbeats 1000000 in
theorem isTime_is (k : Int) (w : World) (p : Bool) (hk : 0 ≤ k ∧ k < 256) (h : p = decide (14 ≤ k ∧ k ≤ 17)) : Calls Tryz.prog 142 #[.int .u8 k] w fun e w' => e = .returned (.bool p) ∧ w' = w := by
  subst h
  rcases kinds k hk with rfl | rfl | rfl | rfl | rfl | rfl | rfl | rfl | rfl | rfl | rfl | rfl | rfl | rfl | rfl | rfl | rfl | rfl | rfl | rfl | hk2
  all_goals
    go_enter Tryz.func142, Tryz.ntmps142
    go_wp2
    go_ret
    exact ⟨ret_bool (by first | rfl | (symm; simp; omega)), rfl⟩
set_option maxHeartbeats 1000000 in
theorem isKind_is (k : Int) (w : World) (p : Bool) (hk : 0 ≤ k ∧ k < 256) (h : p = decide (1 ≤ k ∧ k ≤ 19)) : Calls Tryz.prog 118 #[.int .u8 k] w fun e w' => e = .returned (.bool p) ∧ w' = w := by
  subst h
  rcases kinds k hk with rfl | rfl | rfl | rfl | rfl | rfl | rfl | rfl | rfl | rfl | rfl | rfl | rfl | rfl | rfl | rfl | rfl | rfl | rfl | rfl | hk2
  all_goals
    go_enter Tryz.func118, Tryz.ntmps118
    go_wp2
    go_ret
    exact ⟨ret_bool (by first | rfl | (symm; simp; omega)), rfl⟩
theorem tb_may (p : Bool) : may3 1 (tb p) E0 = true := by
  cases p <;> simp [may3, mayW, tb]
theorem cv_bool (p : Bool) : CvOk 1 (.returned (.tuple #[V 1 (tb p) E0, .int .i64 0])) :=
  ⟨1, tb p, E0, 0, rfl, by cases p <;> decide, by omega, Nat.zero_le _, fun _ => ⟨tb_may p, rfl⟩⟩
theorem cv_text (t : ByteArray) (h : t.size ≤ 254) : CvOk 19 (.returned (.tuple #[V 19 0 t, .int .i64 0])) :=
  ⟨19, 0, t, 0, rfl, by omega, by omega, by unfold maxLen; omega, fun _ => ⟨by simp [may3, h], rfl⟩⟩
section
variable (k kv b : Int) (s : ByteArray) (w : World)
set_option maxRecDepth 100000 in
set_option maxHeartbeats 1000000 in
theorem fromPlain_1 : Calls Tryz.prog 144 #[.int .u8 1, V kv b s] w fun e w' => CvOk 1 e ∧ Below w.heap.size w w' := by
  by_cases hb0 : b = 0
  case pos =>
    subst hb0
    go_enter Tryz.func144, Tryz.ntmps144
    go_wp2_with (go_at_call 92; refine (Bool_of _ _).mono ?_; rintro e w1 ⟨rfl, hb⟩; obtain ⟨z0, z1, q0, q1, q2, q3, q4, q5, q6, HB⟩ := step_box hb; clear hb)
    exact bodyPost_ret (v := .tuple #[V 1 (tb false) E0, .int .i64 0]) (by simp [results, Tryz.results144, go_sem, q3, q4, q5]) rfl ⟨cv_bool _, ((HB.setCell (by simp) _).setCell (by simp) _).setCell (by simp) _⟩
  case neg =>
    have hb1 : (b == 0) = false := by simpa using hb0
    go_enter Tryz.func144, Tryz.ntmps144
    go_wp2_with (go_at_call 92; refine (Bool_of _ _).mono ?_; rintro e w1 ⟨rfl, hb⟩; obtain ⟨z0, z1, q0, q1, q2, q3, q4, q5, q6, HB⟩ := step_box hb; clear hb)
    exact bodyPost_ret (v := .tuple #[V 1 (tb true) E0, .int .i64 0]) (by simp [results, Tryz.results144, go_sem, q3, q4, q5, bne, hb1]) rfl ⟨cv_bool _, ((HB.setCell (by simp) _).setCell (by simp) _).setCell (by simp) _⟩
set_option maxRecDepth 100000 in
set_option maxHeartbeats 1000000 in
theorem fp_int_yes (h0 : 0 ≤ b) (h1 : b < 18446744073709551616) (d : 2 ≤ k ∧ k ≤ 9) (f : fitOk k (num kv b) = true) : Calls Tryz.prog 144 #[.int .u8 k, V kv b s] w fun e w' => e = .returned (.tuple #[V k (num kv b % 18446744073709551616) E0, .int .i64 0]) ∧ Below w.heap.size w w' := by
  have hk : 0 ≤ k ∧ k < 256 := by omega
  have k1 : (k == 1) = false := by simp; omega
  have g : Hid (-18446744073709551616 < num kv b ∧ num kv b < 18446744073709551616) := by have := num_bd kv b h0 h1; show _ ∧ _; omega
  have F : Hid (fitOk k (num kv b) = true) := f
  clear f
  go_enter Tryz.func144, Tryz.ntmps144
  go_wp2_with (first
    | (go_at_call 133; refine (isInteger_is k _ true hk (by symm; simpa using d)).mono ?_; rintro e w1 ⟨rfl, rfl⟩)
    | (go_at_call 129; refine (numberOf_of _ _ _ _ h0 h1).mono ?_; rintro e w2 ⟨rfl, hb⟩; obtain ⟨z0, z1, q0, q1, q2, q3, q4, q5, q6, HB⟩ := step_box hb; clear hb)
    | (go_at_call 130; refine (fitted_yes _ _ _ _ hk g.out F.out).mono ?_; rintro e w4 ⟨rfl, hb4⟩; obtain ⟨u0, u1, l0, l1, l2⟩ := step2 hb4 z0 z1))
  exact bodyPost_ret (v := .tuple #[V k (num kv b % 18446744073709551616) E0, .int .i64 0]) (by simp [results, Tryz.results144, go_sem, l1, q3, q4, q5]) rfl ⟨rfl, (((HB.trans (hb4.mono (Nat.le_of_lt z0))).setCell (by simp) _).setCell (by simp) _).setCell (by simp) _⟩
set_option maxRecDepth 100000 in
set_option maxHeartbeats 1000000 in
theorem fp_int_no (h0 : 0 ≤ b) (h1 : b < 18446744073709551616) (d : 2 ≤ k ∧ k ≤ 9) (f : fitOk k (num kv b) = false) : Calls Tryz.prog 144 #[.int .u8 k, V kv b s] w fun e w' => e = .returned (.tuple #[V 0 0 E0, .int .i64 7]) ∧ Below w.heap.size w w' := by
  have hk : 0 ≤ k ∧ k < 256 := by omega
  have k1 : (k == 1) = false := by simp; omega
  have g : Hid (-18446744073709551616 < num kv b ∧ num kv b < 18446744073709551616) := by have := num_bd kv b h0 h1; show _ ∧ _; omega
  have F : Hid (fitOk k (num kv b) = false) := f
  clear f
  go_enter Tryz.func144, Tryz.ntmps144
  go_wp2_with (first
    | (go_at_call 133; refine (isInteger_is k _ true hk (by symm; simpa using d)).mono ?_; rintro e w1 ⟨rfl, rfl⟩)
    | (go_at_call 129; refine (numberOf_of _ _ _ _ h0 h1).mono ?_; rintro e w2 ⟨rfl, hb⟩; obtain ⟨z0, z1, q0, q1, q2, q3, q4, q5, q6, HB⟩ := step_box hb; clear hb)
    | (go_at_call 130; refine (fitted_no _ _ _ _ hk g.out F.out).mono ?_; rintro e w4 ⟨rfl, hb4⟩; obtain ⟨u0, u1, l0, l1, l2⟩ := step2 hb4 z0 z1))
  exact bodyPost_ret (v := .tuple #[V 0 0 E0, .int .i64 7]) (by simp [results, Tryz.results144, go_sem, l1, q3, q4, q5]) rfl ⟨rfl, (((HB.trans (hb4.mono (Nat.le_of_lt z0))).setCell (by simp) _).setCell (by simp) _).setCell (by simp) _⟩
set_option maxRecDepth 100000 in
set_option maxHeartbeats 1000000 in
theorem fp_row_yes (h0 : 0 ≤ b) (h1 : b < 18446744073709551616) (d : 10 ≤ k ∧ k ≤ 13) (f : fitOk k (num kv b) = true) : Calls Tryz.prog 144 #[.int .u8 k, V kv b s] w fun e w' => e = .returned (.tuple #[V k (num kv b % 18446744073709551616) E0, .int .i64 0]) ∧ Below w.heap.size w w' := by
  have hk : 0 ≤ k ∧ k < 256 := by omega
  have k1 : (k == 1) = false := by simp; omega
  have g : Hid (-18446744073709551616 < num kv b ∧ num kv b < 18446744073709551616) := by have := num_bd kv b h0 h1; show _ ∧ _; omega
  have F : Hid (fitOk k (num kv b) = true) := f
  clear f
  go_enter Tryz.func144, Tryz.ntmps144
  go_wp2_with (first
    | (go_at_call 133; refine (isInteger_is k _ false hk (by symm; simp; omega)).mono ?_; rintro e w1 ⟨rfl, rfl⟩)
    | (go_at_call 157; refine (isRow_is k _ true hk (by symm; simpa using d)).mono ?_; rintro e w1 ⟨rfl, rfl⟩)
    | (go_at_call 129; refine (numberOf_of _ _ _ _ h0 h1).mono ?_; rintro e w2 ⟨rfl, hb⟩; obtain ⟨z0, z1, q0, q1, q2, q3, q4, q5, q6, HB⟩ := step_box hb; clear hb)
    | (go_at_call 130; refine (fitted_yes _ _ _ _ hk g.out F.out).mono ?_; rintro e w4 ⟨rfl, hb4⟩; obtain ⟨u0, u1, l0, l1, l2⟩ := step2 hb4 z0 z1))
  exact bodyPost_ret (v := .tuple #[V k (num kv b % 18446744073709551616) E0, .int .i64 0]) (by simp [results, Tryz.results144, go_sem, l1, q3, q4, q5]) rfl ⟨rfl, (((HB.trans (hb4.mono (Nat.le_of_lt z0))).setCell (by simp) _).setCell (by simp) _).setCell (by simp) _⟩
set_option maxRecDepth 100000 in
set_option maxHeartbeats 1000000 in
theorem fp_row_no (h0 : 0 ≤ b) (h1 : b < 18446744073709551616) (d : 10 ≤ k ∧ k ≤ 13) (f : fitOk k (num kv b) = false) : Calls Tryz.prog 144 #[.int .u8 k, V kv b s] w fun e w' => e = .returned (.tuple #[V 0 0 E0, .int .i64 7]) ∧ Below w.heap.size w w' := by
  have hk : 0 ≤ k ∧ k < 256 := by omega
  have k1 : (k == 1) = false := by simp; omega
  have g : Hid (-18446744073709551616 < num kv b ∧ num kv b < 18446744073709551616) := by have := num_bd kv b h0 h1; show _ ∧ _; omega
  have F : Hid (fitOk k (num kv b) = false) := f
  clear f
  go_enter Tryz.func144, Tryz.ntmps144
  go_wp2_with (first
    | (go_at_call 133; refine (isInteger_is k _ false hk (by symm; simp; omega)).mono ?_; rintro e w1 ⟨rfl, rfl⟩)
    | (go_at_call 157; refine (isRow_is k _ true hk (by symm; simpa using d)).mono ?_; rintro e w1 ⟨rfl, rfl⟩)
    | (go_at_call 129; refine (numberOf_of _ _ _ _ h0 h1).mono ?_; rintro e w2 ⟨rfl, hb⟩; obtain ⟨z0, z1, q0, q1, q2, q3, q4, q5, q6, HB⟩ := step_box hb; clear hb)
    | (go_at_call 130; refine (fitted_no _ _ _ _ hk g.out F.out).mono ?_; rintro e w4 ⟨rfl, hb4⟩; obtain ⟨u0, u1, l0, l1, l2⟩ := step2 hb4 z0 z1))
  exact bodyPost_ret (v := .tuple #[V 0 0 E0, .int .i64 7]) (by simp [results, Tryz.results144, go_sem, l1, q3, q4, q5]) rfl ⟨rfl, (((HB.trans (hb4.mono (Nat.le_of_lt z0))).setCell (by simp) _).setCell (by simp) _).setCell (by simp) _⟩
set_option maxRecDepth 100000 in
set_option maxHeartbeats 1000000 in
theorem fp_time_yes (h0 : 0 ≤ b) (h1 : b < 18446744073709551616) (d : 14 ≤ k ∧ k ≤ 17) (f : fitOk k (num 5 b) = true) : Calls Tryz.prog 144 #[.int .u8 k, V 5 b s] w fun e w' => e = .returned (.tuple #[V k (num 5 b % 18446744073709551616) E0, .int .i64 0]) ∧ Below w.heap.size w w' := by
  have hk : 0 ≤ k ∧ k < 256 := by omega
  have k1 : (k == 1) = false := by simp; omega
  have g : Hid (-18446744073709551616 < num 5 b ∧ num 5 b < 18446744073709551616) := by have := num_bd 5 b h0 h1; show _ ∧ _; omega
  have F : Hid (fitOk k (num 5 b) = true) := f
  clear f
  go_enter Tryz.func144, Tryz.ntmps144
  go_wp2_with (first
    | (go_at_call 133; refine (isInteger_is k _ false hk (by symm; simp; omega)).mono ?_; rintro e w1 ⟨rfl, rfl⟩)
    | (go_at_call 157; refine (isRow_is k _ false hk (by symm; simp; omega)).mono ?_; rintro e w1 ⟨rfl, rfl⟩)
    | (go_at_call 142; refine (isTime_is k _ true hk (by symm; simpa using d)).mono ?_; rintro e w1 ⟨rfl, rfl⟩)
    | (go_at_call 129; refine (numberOf_of _ _ _ _ h0 h1).mono ?_; rintro e w2 ⟨rfl, hb⟩; obtain ⟨z0, z1, q0, q1, q2, q3, q4, q5, q6, HB⟩ := step_box hb; clear hb)
    | (go_at_call 130; refine (fitted_yes _ _ _ _ hk g.out F.out).mono ?_; rintro e w4 ⟨rfl, hb4⟩; obtain ⟨u0, u1, l0, l1, l2⟩ := step2 hb4 z0 z1))
  exact bodyPost_ret (v := .tuple #[V k (num 5 b % 18446744073709551616) E0, .int .i64 0]) (by simp [results, Tryz.results144, go_sem, l1, q3, q4, q5]) rfl ⟨rfl, (((HB.trans (hb4.mono (Nat.le_of_lt z0))).setCell (by simp) _).setCell (by simp) _).setCell (by simp) _⟩
set_option maxRecDepth 100000 in
set_option maxHeartbeats 1000000 in
theorem fp_time_no (h0 : 0 ≤ b) (h1 : b < 18446744073709551616) (d : 14 ≤ k ∧ k ≤ 17) (f : fitOk k (num 5 b) = false) : Calls Tryz.prog 144 #[.int .u8 k, V 5 b s] w fun e w' => e = .returned (.tuple #[V 0 0 E0, .int .i64 7]) ∧ Below w.heap.size w w' := by
  have hk : 0 ≤ k ∧ k < 256 := by omega
  have k1 : (k == 1) = false := by simp; omega
  have g : Hid (-18446744073709551616 < num 5 b ∧ num 5 b < 18446744073709551616) := by have := num_bd 5 b h0 h1; show _ ∧ _; omega
  have F : Hid (fitOk k (num 5 b) = false) := f
  clear f
  go_enter Tryz.func144, Tryz.ntmps144
  go_wp2_with (first
    | (go_at_call 133; refine (isInteger_is k _ false hk (by symm; simp; omega)).mono ?_; rintro e w1 ⟨rfl, rfl⟩)
    | (go_at_call 157; refine (isRow_is k _ false hk (by symm; simp; omega)).mono ?_; rintro e w1 ⟨rfl, rfl⟩)
    | (go_at_call 142; refine (isTime_is k _ true hk (by symm; simpa using d)).mono ?_; rintro e w1 ⟨rfl, rfl⟩)
    | (go_at_call 129; refine (numberOf_of _ _ _ _ h0 h1).mono ?_; rintro e w2 ⟨rfl, hb⟩; obtain ⟨z0, z1, q0, q1, q2, q3, q4, q5, q6, HB⟩ := step_box hb; clear hb)
    | (go_at_call 130; refine (fitted_no _ _ _ _ hk g.out F.out).mono ?_; rintro e w4 ⟨rfl, hb4⟩; obtain ⟨u0, u1, l0, l1, l2⟩ := step2 hb4 z0 z1))
  exact bodyPost_ret (v := .tuple #[V 0 0 E0, .int .i64 7]) (by simp [results, Tryz.results144, go_sem, l1, q3, q4, q5]) rfl ⟨rfl, (((HB.trans (hb4.mono (Nat.le_of_lt z0))).setCell (by simp) _).setCell (by simp) _).setCell (by simp) _⟩
/-- The LREAL of a float may be. -/
theorem lreal_may (n : Nat) (h : n < 18446744073709551616) : may3 18 (lrealB n) E0 = true ∧ 0 ≤ lrealB n ∧ lrealB n < 18446744073709551616 := by
  unfold lrealB
  cases c : fnan n
  · refine ⟨?_, by simp, by simp; omega⟩
    simp [may3, mayW, c]
  · refine ⟨?_, by simp, by simp⟩
    simp [may3, mayW]
theorem cv_lreal (n : Nat) (h : n < 18446744073709551616) : CvOk 18 (.returned (.tuple #[V 18 (lrealB n) E0, .int .i64 0])) :=
  ⟨18, lrealB n, E0, 0, rfl, (lreal_may n h).2, by omega, Nat.zero_le _, fun _ => ⟨(lreal_may n h).1, rfl⟩⟩
theorem flt_bd (n : Int) : floatOfInt .f64 n < 18446744073709551616 := by
  have key : ∀ m : Nat, floatOfInt .f64 (m : Int) < 9223372036854775808 := by
    intro m
    show FloatKind.f64.format.nearest (decide ((m : Int) < 0)) (m : Int).natAbs 0 < _
    rw [show decide ((m : Int) < 0) = false by simp, Int.natAbs_natCast]
    rcases Nat.eq_zero_or_pos m with rfl | hm
    · decide
    · exact nearest_lt _ (by omega)
  by_cases h : n < 0
  · rw [← float_neg n h]
    have k := key n.natAbs
    show (floatOfInt .f64 (n.natAbs : Int)) ^^^ 9223372036854775808 < 2 ^ 64
    exact Nat.xor_lt_two_pow (by omega) (by decide)
  · obtain ⟨m, rfl⟩ := Int.eq_ofNat_of_zero_le (by omega : 0 ≤ n)
    have := key m
    omega
set_option maxRecDepth 100000 in
set_option maxHeartbeats 1000000 in
theorem fp_real (h0 : 0 ≤ b) (h1 : b < 18446744073709551616) : Calls Tryz.prog 144 #[.int .u8 18, V kv b s] w fun e w' => e = .returned (.tuple #[V 18 (lrealB (floatOfInt .f64 (num kv b))) E0, .int .i64 0]) ∧ Below w.heap.size w w' := by
  go_enter Tryz.func144, Tryz.ntmps144
  go_wp2_with (first
    | (go_at_call 133; refine (isInteger_is 18 _ false (by omega) (by simp)).mono ?_; rintro e w1 ⟨rfl, rfl⟩)
    | (go_at_call 157; refine (isRow_is 18 _ false (by omega) (by simp)).mono ?_; rintro e w1 ⟨rfl, rfl⟩)
    | (go_at_call 142; refine (isTime_is 18 _ false (by omega) (by simp)).mono ?_; rintro e w1 ⟨rfl, rfl⟩)
    | (go_at_call 129; refine (numberOf_of _ _ _ _ h0 h1).mono ?_; rintro e w2 ⟨rfl, hb⟩; obtain ⟨z0, z1, q0, q1, q2, q3, q4, q5, q6, HB⟩ := step_box hb; clear hb)
    | (go_at_call 134; refine (nearest_of _ _).mono ?_; rintro e w3 ⟨rfl, hb3⟩; obtain ⟨x0, x1, m0, m1, m2⟩ := step2 hb3 z0 z1)
    | (go_at_call 95; refine (Lreal_of _ _).mono ?_; rintro e w4 ⟨rfl, hb4⟩; obtain ⟨u0, u1, l0, l1, l2⟩ := step2 hb4 x0 x1))
  exact bodyPost_ret (v := .tuple #[V 18 (lrealB (floatOfInt .f64 (num kv b))) E0, .int .i64 0]) (by simp [results, Tryz.results144, go_sem, l1, m1, q3, q4, q5]) rfl ⟨rfl, ((((HB.trans (hb3.mono (Nat.le_of_lt z0))).trans (hb4.mono (Nat.le_of_lt x0))).setCell (by simp) _).setCell (by simp) _).setCell (by simp) _⟩
set_option maxRecDepth 100000 in
set_option maxHeartbeats 1000000 in
theorem fp_text (h0 : 0 ≤ b) (h1 : b < 18446744073709551616) (hs : s.size ≤ maxLen) (d : 1 ≤ kv ∧ kv ≤ 9) (m : may3 kv b s = true) (hP : Pow w) : Calls Tryz.prog 144 #[.int .u8 19, V kv b s] w fun e w' => CvOk 19 e ∧ Below w.heap.size w w' := by
  have P : Hid (∀ w, Pow w → Calls Tryz.prog 164 #[V kv b s] w fun e w' => (∃ t, e = .returned (.string t) ∧ t.size ≤ 21) ∧ Below w.heap.size w w') := fun w h => Print_of kv b s w h h0 h1 d hs m
  have HP : Hid _ := pow_below hP (((Below.refl w.heap.size w).alloc (Nat.le_refl _) (.cells #[.int .u8 kv, .int .u64 b, .string s] 27)).alloc (by simp) (.cells #[.int .u8 0, .int .u64 0, .string ⟨#[]⟩] 27))
  clear m hP
  go_enter Tryz.func144, Tryz.ntmps144
  go_wp2_with (first
    | (go_at_call 133; refine (isInteger_is 19 _ false (by omega) (by simp)).mono ?_; rintro e w1 ⟨rfl, rfl⟩)
    | (go_at_call 157; refine (isRow_is 19 _ false (by omega) (by simp)).mono ?_; rintro e w1 ⟨rfl, rfl⟩)
    | (go_at_call 157; refine (isRow_is kv _ false (by omega) (by symm; simp; omega)).mono ?_; rintro e w1 ⟨rfl, rfl⟩)
    | (go_at_call 142; refine (isTime_is 19 _ false (by omega) (by simp)).mono ?_; rintro e w1 ⟨rfl, rfl⟩)
    | (go_at_call 164; refine (P.out _ HP.out).mono ?_; rintro e w2 ⟨⟨t, rfl, ht⟩, hb⟩; obtain ⟨z0, z1, q0, q1, q2, q3, q4, q5, q6, HB⟩ := step_box hb; clear hb)
    | (go_at_call 109; refine (Text_of _ _ (by unfold maxLen; omega)).mono ?_; rw [textR, if_pos (by omega)]; rintro e w4 ⟨rfl, hb4⟩; obtain ⟨u0, u1, l0, l1, l2⟩ := step2 hb4 z0 z1))
  exact bodyPost_ret (v := .tuple #[V 19 0 t, .int .i64 0]) (by simp [results, Tryz.results144, go_sem, l1, q3, q4, q5]) rfl ⟨cv_text t (by omega), (((HB.trans (hb4.mono (Nat.le_of_lt z0))).setCell (by simp) _).setCell (by simp) _).setCell (by simp) _⟩
set_option maxRecDepth 100000 in
set_option maxHeartbeats 1000000 in
theorem fp_none (hk : 0 ≤ k ∧ k < 256) (hv : 0 ≤ kv ∧ kv < 256) (d : (14 ≤ k ∧ k ≤ 17 ∧ ¬ kv = 5) ∨ (k = 19 ∧ 10 ≤ kv ∧ kv ≤ 13)) : Calls Tryz.prog 144 #[.int .u8 k, V kv b s] w fun e w' => e = .returned (.tuple #[V 0 0 E0, .int .i64 8]) ∧ Below w.heap.size w w' := by
  have k1 : (k == 1) = false := by simp; omega
  have k18 : (k == 18) = false := by simp; omega
  rcases d with d | d
  · have k19 : (k == 19) = false := by simp; omega
    have v5 : (kv == 5) = false := by simp; omega
    go_enter Tryz.func144, Tryz.ntmps144
    go_wp2_with (first
      | (go_at_call 133; refine (isInteger_is k _ false hk (by symm; simp; omega)).mono ?_; rintro e w1 ⟨rfl, rfl⟩)
      | (go_at_call 157; refine (isRow_is k _ false hk (by symm; simp; omega)).mono ?_; rintro e w1 ⟨rfl, rfl⟩)
      | (go_at_call 142; refine (isTime_is k _ true hk (by symm; simp; omega)).mono ?_; rintro e w1 ⟨rfl, rfl⟩))
    exact bodyPost_ret (v := .tuple #[V 0 0 E0, .int .i64 8]) (by simp [results, Tryz.results144, go_sem]) rfl ⟨rfl, ((Below.refl _ _).alloc (Nat.le_refl _) _).alloc (by simp) _⟩
  · obtain ⟨rfl, d1, d2⟩ := d
    go_enter Tryz.func144, Tryz.ntmps144
    go_wp2_with (first
      | (go_at_call 133; refine (isInteger_is 19 _ false (by omega) (by simp)).mono ?_; rintro e w1 ⟨rfl, rfl⟩)
      | (go_at_call 157; refine (isRow_is 19 _ false (by omega) (by simp)).mono ?_; rintro e w1 ⟨rfl, rfl⟩)
      | (go_at_call 157; refine (isRow_is kv _ true (by omega) (by symm; simp; omega)).mono ?_; rintro e w1 ⟨rfl, rfl⟩)
      | (go_at_call 142; refine (isTime_is 19 _ false (by omega) (by simp)).mono ?_; rintro e w1 ⟨rfl, rfl⟩))
    exact bodyPost_ret (v := .tuple #[V 0 0 E0, .int .i64 8]) (by simp [results, Tryz.results144, go_sem]) rfl ⟨rfl, ((Below.refl _ _).alloc (Nat.le_refl _) _).alloc (by simp) _⟩
theorem cv_fit7 (k n : Int) (hk : 0 ≤ k ∧ k < 256) (c : fitOk k n = true) : CvOk k (.returned (.tuple #[V k (n % 18446744073709551616) E0, .int .i64 0])) := by
  have := cv_fit k n 7 hk (by omega)
  rw [c] at this
  exact this
theorem fromPlain_of (h0 : 0 ≤ b) (h1 : b < 18446744073709551616) (hs : s.size ≤ maxLen) (hk : 1 ≤ k ∧ k ≤ 19) (hv : 1 ≤ kv ∧ kv ≤ 13) (m : may3 kv b s = true) (hP : Pow w) : Calls Tryz.prog 144 #[.int .u8 k, V kv b s] w fun e w' => CvOk k e ∧ Below w.heap.size w w' := by
  have hk2 : 0 ≤ k ∧ k < 256 := by omega
  have fin : ∀ {v : Value}, CvOk k (.returned v) → (Calls Tryz.prog 144 #[.int .u8 k, V kv b s] w fun e w' => e = .returned v ∧ Below w.heap.size w w') → Calls Tryz.prog 144 #[.int .u8 k, V kv b s] w fun e w' => CvOk k e ∧ Below w.heap.size w w' := by
    intro v hv hc
    refine hc.mono ?_
    rintro e w' ⟨rfl, hb⟩
    exact ⟨hv, hb⟩
  rcases (by omega : k = 1 ∨ (2 ≤ k ∧ k ≤ 9) ∨ (10 ≤ k ∧ k ≤ 13) ∨ (14 ≤ k ∧ k ≤ 17 ∧ kv = 5) ∨ (14 ≤ k ∧ k ≤ 17 ∧ ¬ kv = 5) ∨ k = 18 ∨ (k = 19 ∧ 10 ≤ kv ∧ kv ≤ 13) ∨ (k = 19 ∧ 1 ≤ kv ∧ kv ≤ 9)) with rfl | d | d | ⟨d1, d2, rfl⟩ | d | rfl | d | ⟨rfl, d⟩
  · exact fromPlain_1 kv b s w
  · cases c : fitOk k (num kv b)
    · exact fin (cv_fault k 7 (by omega)) (fp_int_no k kv b s w h0 h1 d c)
    · exact fin (cv_fit7 k _ hk2 c) (fp_int_yes k kv b s w h0 h1 d c)
  · cases c : fitOk k (num kv b)
    · exact fin (cv_fault k 7 (by omega)) (fp_row_no k kv b s w h0 h1 d c)
    · exact fin (cv_fit7 k _ hk2 c) (fp_row_yes k kv b s w h0 h1 d c)
  · cases c : fitOk k (num 5 b)
    · exact fin (cv_fault k 7 (by omega)) (fp_time_no k b s w h0 h1 ⟨d1, d2⟩ c)
    · exact fin (cv_fit7 k _ hk2 c) (fp_time_yes k b s w h0 h1 ⟨d1, d2⟩ c)
  · exact fin (cv_fault k 8 (by omega)) (fp_none k kv b s w hk2 (by omega) (Or.inl d))
  · exact fin (cv_lreal _ (flt_bd _)) (fp_real kv b s w h0 h1)
  · exact fin (cv_fault k 8 (by omega)) (fp_none k kv b s w hk2 (by omega) (Or.inr d))
  · exact fp_text kv b s w h0 h1 hs d m hP
end
end Go.Proofs.YtpaibmganlaaeaaGreatDoor
namespace Go.Proofs.YtpaibmganlaaeaaGreatDoor
set_option linter.unusedVariables false
open Go.RowKit
/-- The box of a result, behind a call. -/
theorem step_zeroC {w w1 : World} {u : TypeId} (hb : Below (w.alloc (.cells #[.int .u8 0, .int .u64 0, .string ⟨#[]⟩] u)).heap.size (w.alloc (.cells #[.int .u8 0, .int .u64 0, .string ⟨#[]⟩] u)) w1) :
    w.heap.size < w1.heap.size ∧ w1.cell? ⟨w.heap.size, 0, none⟩ = some (.int .u8 0) ∧ w1.cell? ⟨w.heap.size, 1, none⟩ = some (.int .u64 0) ∧ w1.cell? ⟨w.heap.size, 2, none⟩ = some (.string ⟨#[]⟩) ∧
    (∀ o, w1.frozen? ⟨w.heap.size, o, none⟩ = false) ∧ Below w.heap.size w w1 := by
  have hs := hb.size
  simp only [World.size_alloc] at hs
  refine ⟨by omega, ?_, ?_, ?_, ?_, ((Below.refl _ _).alloc (Nat.le_refl _) _).trans (hb.mono (by simp))⟩
  · rw [hb.cell (p := ⟨w.heap.size, 0, none⟩) (by simp)]; simp
  · rw [hb.cell (p := ⟨w.heap.size, 1, none⟩) (by simp)]; simp
  · rw [hb.cell (p := ⟨w.heap.size, 2, none⟩) (by simp)]; simp
  · intro o
    rw [hb.frozen (p := ⟨w.heap.size, o, none⟩) (by simp)]; simp
theorem step1C {W w2 : World} {h : Nat} (hb : Below W.heap.size W w2) (z0 : h < W.heap.size) :
    h < w2.heap.size ∧ (∀ o, w2.cell? ⟨h, o, none⟩ = W.cell? ⟨h, o, none⟩) ∧ (∀ o, w2.frozen? ⟨h, o, none⟩ = W.frozen? ⟨h, o, none⟩) :=
  ⟨Nat.lt_of_lt_of_le z0 hb.size, fun o => hb.cell (p := ⟨h, o, none⟩) z0, fun o => hb.frozen (p := ⟨h, o, none⟩) z0⟩
theorem boxC {w w2 w4 : World} {o : Obj} (z0 : w.heap.size < w2.heap.size) (q0 : w2.cell? ⟨w.heap.size, 0, none⟩ = some (.int .u8 0)) (q1 : w2.cell? ⟨w.heap.size, 1, none⟩ = some (.int .u64 0)) (q2 : w2.cell? ⟨w.heap.size, 2, none⟩ = some (.string ⟨#[]⟩)) (q6 : ∀ o, w2.frozen? ⟨w.heap.size, o, none⟩ = false) (HB : Below w.heap.size w w2)
    (hb : Below (w2.alloc o).heap.size (w2.alloc o) w4) : w.heap.size < w4.heap.size ∧ w4.cell? ⟨w.heap.size, 0, none⟩ = some (.int .u8 0) ∧ w4.cell? ⟨w.heap.size, 1, none⟩ = some (.int .u64 0) ∧ w4.cell? ⟨w.heap.size, 2, none⟩ = some (.string ⟨#[]⟩) ∧ (∀ o, w4.frozen? ⟨w.heap.size, o, none⟩ = false) ∧ Below w.heap.size w w4 := by
  have B := (Below.refl w2.heap.size w2).alloc (Nat.le_refl _) o
  have C : Below w2.heap.size w2 w4 := B.trans (hb.mono (by simp))
  refine ⟨Nat.lt_of_lt_of_le z0 C.size, ?_, ?_, ?_, ?_, HB.trans (C.mono (Nat.le_of_lt z0))⟩
  · rw [C.cell (p := ⟨w.heap.size, 0, none⟩) z0, q0]
  · rw [C.cell (p := ⟨w.heap.size, 1, none⟩) z0, q1]
  · rw [C.cell (p := ⟨w.heap.size, 2, none⟩) z0, q2]
  · intro o'
    rw [C.frozen (p := ⟨w.heap.size, o', none⟩) z0, q6]
theorem fitted_cv (k n : Int) (w : World) (hk : 0 ≤ k ∧ k < 256) (g0 : -18446744073709551616 < n) (g1 : n < 18446744073709551616) :
    Calls Tryz.prog 130 #[.int .u8 k, NB n, .int .i64 7] w fun e w' => CvOk k e ∧ Below w.heap.size w w' := by
  refine (fitted_of k n 7 w hk ⟨g0, g1⟩).mono ?_
  rintro e w' ⟨rfl, hb⟩
  exact ⟨cv_fit k n 7 hk (by omega), hb⟩
section
variable (k kv b : Int) (s : ByteArray) (x : Nat) (w : World)
set_option maxRecDepth 100000 in
set_option maxHeartbeats 1000000 in
theorem fromFloat_1 : Calls Tryz.prog 140 #[.int .u8 1, .float .f64 x] w fun e w' => CvOk 1 e ∧ Below w.heap.size w w' := by
  cases c : fnan x
  · have C : Hid (fnan x = false) := c
    clear c
    go_enter Tryz.func140, Tryz.ntmps140
    go_wp2_with (first
      | (go_at_call 82; refine (IsNaN_of _ _).mono ?_; rintro e w' ⟨rfl, rfl⟩; rw [C.out])
      | (go_at_call 92; refine (Bool_of _ _).mono ?_; rintro e w1 ⟨rfl, hb⟩; obtain ⟨z0, q0, q1, q2, q6, HB⟩ := step_zeroC hb; clear hb))
    generalize (FloatKind.f64.format.order x 0 != some Ordering.eq) = p
    exact bodyPost_ret (v := .tuple #[V 1 (tb p) E0, .int .i64 0]) (by simp [results, Tryz.results140, go_sem, q0, q1, q2]) rfl ⟨cv_bool _, ((HB.setCell (by simp) _).setCell (by simp) _).setCell (by simp) _⟩
  · have C : Hid (fnan x = true) := c
    clear c
    go_enter Tryz.func140, Tryz.ntmps140
    go_wp2_with (go_at_call 82; refine (IsNaN_of _ _).mono ?_; rintro e w' ⟨rfl, rfl⟩; rw [C.out])
    exact bodyPost_ret (v := .tuple #[V 0 0 E0, .int .i64 7]) (by simp [results, Tryz.results140, go_sem]) rfl ⟨cv_fault 1 7 (by omega), (Below.refl _ _).alloc (Nat.le_refl _) _⟩
set_option maxRecDepth 100000 in
set_option maxHeartbeats 1000000 in
theorem fromFloat_8 (hk : 0 ≤ k ∧ k < 256) (d : 14 ≤ k) : Calls Tryz.prog 140 #[.int .u8 k, .float .f64 x] w fun e w' => CvOk k e ∧ Below w.heap.size w w' := by
  have k1 : (k == 1) = false := by simp; omega
  go_enter Tryz.func140, Tryz.ntmps140
  go_wp2_with (first
      | (go_at_call 133; refine (isInteger_is k _ false hk (by symm; simp; omega)).mono ?_; rintro e w1 ⟨rfl, rfl⟩)
      | (go_at_call 157; refine (isRow_is k _ false hk (by symm; simp; omega)).mono ?_; rintro e w1 ⟨rfl, rfl⟩))
  exact bodyPost_ret (v := .tuple #[V 0 0 E0, .int .i64 8]) (by simp [results, Tryz.results140, go_sem]) rfl ⟨cv_fault k 8 (by omega), (Below.refl _ _).alloc (Nat.le_refl _) _⟩
set_option maxRecDepth 100000 in
set_option maxHeartbeats 1000000 in
theorem fromFloat_n (hk : 0 ≤ k ∧ k < 256) (d : 2 ≤ k ∧ k ≤ 13) (h : calm x) : Calls Tryz.prog 140 #[.int .u8 k, .float .f64 x] w fun e w' => CvOk k e ∧ Below w.heap.size w w' := by
  have k1 : (k == 1) = false := by simp; omega
  have R : Hid _ := rounded_of x h
  clear h
  by_cases d9 : k ≤ 9
  · go_enter Tryz.func140, Tryz.ntmps140
    go_wp2_with (first
      | (go_at_call 133; refine (isInteger_is k _ true hk (by symm; simp; omega)).mono ?_; rintro e w1 ⟨rfl, rfl⟩)
      | (go_at_call 162; refine (R.out _).mono ?_; rintro e w2 ⟨⟨n, p, rfl, n0, n1⟩, hb⟩; obtain ⟨z0, q0, q1, q2, q6, HB⟩ := step_zeroC hb; clear hb; cases p)
      | (go_at_call 130; refine (fitted_cv k n _ hk n0 n1).mono ?_; rintro e w4 ⟨⟨k', b', s', f, rfl, hb', hk', hs', hf⟩, hb4⟩; obtain ⟨y0, p0, p1, p2, p6, PB⟩ := boxC z0 q0 q1 q2 q6 HB hb4; clear hb4))
    · exact bodyPost_ret (v := .tuple #[V 0 0 E0, .int .i64 7]) (by simp [results, Tryz.results140, go_sem, q0, q1, q2, z0]) rfl ⟨cv_fault k 7 (by omega), by go_grown⟩
    · exact bodyPost_ret (v := .tuple #[V k' b' s', .int .i64 f]) (by simp [results, Tryz.results140, go_sem, p0, p1, p2]) rfl ⟨⟨k', b', s', f, rfl, hb', hk', hs', hf⟩, ((PB.setCell (by simp) _).setCell (by simp) _).setCell (by simp) _⟩
  · go_enter Tryz.func140, Tryz.ntmps140
    go_wp2_with (first
      | (go_at_call 133; refine (isInteger_is k _ false hk (by symm; simp; omega)).mono ?_; rintro e w1 ⟨rfl, rfl⟩)
      | (go_at_call 157; refine (isRow_is k _ true hk (by symm; simp; omega)).mono ?_; rintro e w1 ⟨rfl, rfl⟩)
      | (go_at_call 162; refine (R.out _).mono ?_; rintro e w2 ⟨⟨n, p, rfl, n0, n1⟩, hb⟩; obtain ⟨z0, q0, q1, q2, q6, HB⟩ := step_zeroC hb; clear hb; cases p)
      | (go_at_call 130; refine (fitted_cv k n _ hk n0 n1).mono ?_; rintro e w4 ⟨⟨k', b', s', f, rfl, hb', hk', hs', hf⟩, hb4⟩; obtain ⟨y0, p0, p1, p2, p6, PB⟩ := boxC z0 q0 q1 q2 q6 HB hb4; clear hb4))
    · exact bodyPost_ret (v := .tuple #[V 0 0 E0, .int .i64 7]) (by simp [results, Tryz.results140, go_sem, q0, q1, q2, z0]) rfl ⟨cv_fault k 7 (by omega), by go_grown⟩
    · exact bodyPost_ret (v := .tuple #[V k' b' s', .int .i64 f]) (by simp [results, Tryz.results140, go_sem, p0, p1, p2]) rfl ⟨⟨k', b', s', f, rfl, hb', hk', hs', hf⟩, ((PB.setCell (by simp) _).setCell (by simp) _).setCell (by simp) _⟩
set_option maxRecDepth 100000 in
set_option maxHeartbeats 1000000 in
theorem fromText_n (hk : 0 ≤ k ∧ k < 256) (d : 2 ≤ k) (hs : s.size ≤ maxLen) : Calls Tryz.prog 141 #[.int .u8 k, .string s] w fun e w' => CvOk k e ∧ Below w.heap.size w w' := by
  have k1 : (k == 1) = false := by simp; omega
  have R : Hid (∀ w, Calls Tryz.prog 163 #[.string s] w fun e w' => RdN e ∧ Below w.heap.size w w') := fun w => readNumber_of s w hs
  by_cases d9 : k ≤ 9
  · go_enter Tryz.func141, Tryz.ntmps141
    go_wp2_with (first
      | (go_at_call 133; refine (isInteger_is k _ true hk (by symm; simp; omega)).mono ?_; rintro e w1 ⟨rfl, rfl⟩)
      | (go_at_call 163; refine (R.out _).mono ?_; rintro e w2 ⟨⟨n, p, rfl, n0, n1⟩, hb⟩; obtain ⟨z0, q0, q1, q2, q6, HB⟩ := step_zeroC hb; clear hb; cases p)
      | (go_at_call 130; refine (fitted_cv k n _ hk n0 n1).mono ?_; rintro e w4 ⟨⟨k', b', s', f, rfl, hb', hk', hs', hf⟩, hb4⟩; obtain ⟨y0, p0, p1, p2, p6, PB⟩ := boxC z0 q0 q1 q2 q6 HB hb4; clear hb4))
    · exact bodyPost_ret (v := .tuple #[V 0 0 E0, .int .i64 7]) (by simp [results, Tryz.results141, go_sem, q0, q1, q2, z0]) rfl ⟨cv_fault k 7 (by omega), by go_grown⟩
    · exact bodyPost_ret (v := .tuple #[V k' b' s', .int .i64 f]) (by simp [results, Tryz.results141, go_sem, p0, p1, p2]) rfl ⟨⟨k', b', s', f, rfl, hb', hk', hs', hf⟩, ((PB.setCell (by simp) _).setCell (by simp) _).setCell (by simp) _⟩
  · go_enter Tryz.func141, Tryz.ntmps141
    go_wp2_with (go_at_call 133; refine (isInteger_is k _ false hk (by symm; simp; omega)).mono ?_; rintro e w1 ⟨rfl, rfl⟩)
    exact bodyPost_ret (v := .tuple #[V 0 0 E0, .int .i64 8]) (by simp [results, Tryz.results141, go_sem]) rfl ⟨cv_fault k 8 (by omega), (Below.refl _ _).alloc (Nat.le_refl _) _⟩
set_option maxRecDepth 100000 in
set_option maxHeartbeats 1000000 in
theorem fromText_1 : Calls Tryz.prog 141 #[.int .u8 1, .string s] w fun e w' => CvOk 1 e ∧ Below w.heap.size w w' := by
  cases c : (s.toList == [84, 82, 85, 69])
  · cases c2 : (s.toList == [70, 65, 76, 83, 69])
    · go_enter Tryz.func141, Tryz.ntmps141
      go_wp2
      exact bodyPost_ret (v := .tuple #[V 0 0 E0, .int .i64 7]) (by simp [results, Tryz.results141, go_sem]) rfl ⟨cv_fault 1 7 (by omega), (Below.refl _ _).alloc (Nat.le_refl _) _⟩
    · go_enter Tryz.func141, Tryz.ntmps141
      go_wp2_with (go_at_call 92; refine (Bool_of _ _).mono ?_; rintro e w1 ⟨rfl, hb⟩; obtain ⟨z0, q0, q1, q2, q6, HB⟩ := step_zeroC hb; clear hb)
      exact bodyPost_ret (v := .tuple #[V 1 (tb false) E0, .int .i64 0]) (by simp [results, Tryz.results141, go_sem, q0, q1, q2]) rfl ⟨cv_bool _, ((HB.setCell (by simp) _).setCell (by simp) _).setCell (by simp) _⟩
  · go_enter Tryz.func141, Tryz.ntmps141
    go_wp2_with (go_at_call 92; refine (Bool_of _ _).mono ?_; rintro e w1 ⟨rfl, hb⟩; obtain ⟨z0, q0, q1, q2, q6, HB⟩ := step_zeroC hb; clear hb)
    exact bodyPost_ret (v := .tuple #[V 1 (tb true) E0, .int .i64 0]) (by simp [results, Tryz.results141, go_sem, q0, q1, q2]) rfl ⟨cv_bool _, ((HB.setCell (by simp) _).setCell (by simp) _).setCell (by simp) _⟩
theorem day_may (b : Int) (h0 : 0 ≤ b) (h1 : b < 7258118400000000000) : may3 15 (b - b % 86400000000000) E0 = true ∧ may3 16 (b % 86400000000000) E0 = true := by
  constructor
  · simp [may3, mayW]
    omega
  · simp [may3, mayW]
    omega
set_option maxRecDepth 100000 in
set_option maxHeartbeats 1000000 in
theorem fromTime_5 (h0 : 0 ≤ b) (h1 : b < 18446744073709551616) : Calls Tryz.prog 143 #[.int .u8 5, V kv b s] w fun e w' => CvOk 5 e ∧ Below w.heap.size w w' := by
  have g : Hid (-18446744073709551616 < num kv b ∧ num kv b < 18446744073709551616) := by have := num_bd kv b h0 h1; show _ ∧ _; omega
  go_enter Tryz.func143, Tryz.ntmps143
  go_wp2_with (first
    | (go_at_call 129; refine (numberOf_of _ _ _ _ h0 h1).mono ?_; rintro e w2 ⟨rfl, hb⟩; obtain ⟨z0, z1, q0, q1, q2, q3, q4, q5, q6, HB⟩ := step_box hb; clear hb)
    | (go_at_call 130; refine (fitted_cv 5 _ _ (by omega) g.out.1 g.out.2).mono ?_; rintro e w4 ⟨⟨k', b', s', f, rfl, hb', hk', hs', hf⟩, hb4⟩; obtain ⟨u0, u1, l0, l1, l2⟩ := step2 hb4 z0 z1))
  exact bodyPost_ret (v := .tuple #[V k' b' s', .int .i64 f]) (by simp [results, Tryz.results143, go_sem, l1, q3, q4, q5]) rfl ⟨⟨k', b', s', f, rfl, hb', hk', hs', hf⟩, (((HB.trans (hb4.mono (Nat.le_of_lt z0))).setCell (by simp) _).setCell (by simp) _).setCell (by simp) _⟩
set_option maxRecDepth 100000 in
set_option maxHeartbeats 1000000 in
theorem fromTime_d (h0 : 0 ≤ b) (h1 : b < 7258118400000000000) : Calls Tryz.prog 143 #[.int .u8 15, V 17 b s] w fun e w' => e = .returned (.tuple #[V 15 (b - b % 86400000000000) E0, .int .i64 0]) ∧ Below w.heap.size w w' := by
  go_enter Tryz.func143, Tryz.ntmps143
  go_wp2
  exact bodyPost_ret (v := .tuple #[V 15 (b - b % 86400000000000) E0, .int .i64 0]) (by simp [results, Tryz.results143, go_sem]) rfl ⟨rfl, ((Below.refl _ _).alloc (Nat.le_refl _) _).alloc (by simp) _⟩
set_option maxRecDepth 100000 in
set_option maxHeartbeats 1000000 in
theorem fromTime_t (h0 : 0 ≤ b) (h1 : b < 7258118400000000000) : Calls Tryz.prog 143 #[.int .u8 16, V 17 b s] w fun e w' => e = .returned (.tuple #[V 16 (b % 86400000000000) E0, .int .i64 0]) ∧ Below w.heap.size w w' := by
  go_enter Tryz.func143, Tryz.ntmps143
  go_wp2
  exact bodyPost_ret (v := .tuple #[V 16 (b % 86400000000000) E0, .int .i64 0]) (by simp [results, Tryz.results143, go_sem]) rfl ⟨rfl, ((Below.refl _ _).alloc (Nat.le_refl _) _).alloc (by simp) _⟩
set_option maxRecDepth 100000 in
set_option maxHeartbeats 1000000 in
theorem fromTime_8 (d : ¬ k = 5) (d2 : ¬ (k = 15 ∧ kv = 17)) (d3 : ¬ (k = 16 ∧ kv = 17)) : Calls Tryz.prog 143 #[.int .u8 k, V kv b s] w fun e w' => CvOk k e ∧ Below w.heap.size w w' := by
  have k5 : (k == 5) = false := by simpa using d
  have X : Hid _ := d2
  have Y : Hid _ := d3
  clear d d2 d3
  by_cases v17 : kv = 17
  · subst v17
    have k15 : (k == 15) = false := by rw [beq_eq_false_iff_ne]; exact fun e => X.out ⟨e, rfl⟩
    have k16 : (k == 16) = false := by rw [beq_eq_false_iff_ne]; exact fun e => Y.out ⟨e, rfl⟩
    go_enter Tryz.func143, Tryz.ntmps143
    go_wp2
    exact bodyPost_ret (v := .tuple #[V 0 0 E0, .int .i64 8]) (by simp [results, Tryz.results143, go_sem]) rfl ⟨cv_fault k 8 (by omega), ((Below.refl _ _).alloc (Nat.le_refl _) _).alloc (by simp) _⟩
  · have f17 : (kv == 17) = false := by simpa using v17
    by_cases a : k = 15
    · subst a
      go_enter Tryz.func143, Tryz.ntmps143
      go_wp2
      exact bodyPost_ret (v := .tuple #[V 0 0 E0, .int .i64 8]) (by simp [results, Tryz.results143, go_sem]) rfl ⟨cv_fault 15 8 (by omega), ((Below.refl _ _).alloc (Nat.le_refl _) _).alloc (by simp) _⟩
    · by_cases a' : k = 16
      · subst a'
        go_enter Tryz.func143, Tryz.ntmps143
        go_wp2
        exact bodyPost_ret (v := .tuple #[V 0 0 E0, .int .i64 8]) (by simp [results, Tryz.results143, go_sem]) rfl ⟨cv_fault 16 8 (by omega), ((Below.refl _ _).alloc (Nat.le_refl _) _).alloc (by simp) _⟩
      · have k15 : (k == 15) = false := by simpa using a
        have k16 : (k == 16) = false := by simpa using a'
        go_enter Tryz.func143, Tryz.ntmps143
        go_wp2
        exact bodyPost_ret (v := .tuple #[V 0 0 E0, .int .i64 8]) (by simp [results, Tryz.results143, go_sem]) rfl ⟨cv_fault k 8 (by omega), ((Below.refl _ _).alloc (Nat.le_refl _) _).alloc (by simp) _⟩
end
end Go.Proofs.YtpaibmganlaaeaaGreatDoor
