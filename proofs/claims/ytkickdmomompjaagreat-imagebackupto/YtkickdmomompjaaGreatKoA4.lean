/- A row of four bytes as an array; no statement of the seat is proved here. -/
import Derived.Test.YtkickdmomompjaaGreatKoA3
import Derived.Test.YtkickdmomompjaaGreatKoA1
import Derived.BigQuiet
import Derived.Test.YtkickdmomompjaaGreatKoA2
import Derived.Handy
import Derived.DeepKeys
namespace Go.Proofs.YtkickdmomompjaaGreat
set_option linter.unusedVariables false
open Go.RowKit
set_option maxHeartbeats 400000 in
theorem order_raw (p q : Bool) (a b : Int) (w : World) :
    Calls Tryz.prog 102 #[.agg #[.bool p, .int .u64 a], .agg #[.bool q, .int .u64 b]] w fun e w' =>
      e = .returned (.int .i64 (if p && !q then -1 else if q && !p then 1 else if p then cmpI b a else cmpI a b)) ∧ Below w.heap.size w w' := by
  cases p <;> cases q
  all_goals
    go_enter Tryz.func102, Tryz.ntmps102
    go_wp2_with (first | (go_at_call 111; refine (Compare_of _ _ _).mono ?_; rintro e w1 ⟨rfl, rfl⟩))
    go_ret
    exact ⟨ret_int (by simp), ((Below.refl _ _).alloc (Nat.le_refl _) _).alloc (by simp) _⟩
theorem order_of (a b : Int) (w : World) :
    Calls Tryz.prog 102 #[NB a, NB b] w fun e w' => e = .returned (.int .i64 (cmpI a b)) ∧ Below w.heap.size w w' := by
  refine (order_raw (decide (a < 0)) (decide (b < 0)) a.natAbs b.natAbs w).mono ?_
  rintro e w' ⟨rfl, hb⟩
  refine ⟨ret_int ?_, hb⟩
  by_cases ha : a < 0 <;> by_cases hb : b < 0 <;> simp only [ha, hb, decide_true, decide_false, Bool.not_true, Bool.not_false, Bool.and_true, Bool.and_false, if_true, if_false, Bool.false_eq_true] <;> unfold cmpI <;> (repeat' split) <;> omega
end Go.Proofs.YtkickdmomompjaaGreat
namespace Go.Proofs.YtkickdmomompjaaGreat
set_option linter.unusedVariables false
open Go.RowKit
theorem win_f (n lo hi : Int) (c : n < lo) : false = decide (lo ≤ n ∧ n ≤ hi) := by symm; simp; omega
theorem win_t (n lo hi : Int) (c : ¬ n < lo) : decide (cmpI n hi ≤ 0) = decide (lo ≤ n ∧ n ≤ hi) := by
  rw [Bool.eq_iff_iff]; simp only [decide_eq_true_eq]; unfold cmpI; split <;> (try split) <;> omega
set_option maxHeartbeats 400000 in
theorem within_of (n lo hi : Int) (w : World) (g1 : -9223372036854775808 ≤ lo ∧ lo < 9223372036854775808) (g2 : -9223372036854775808 ≤ hi ∧ hi < 9223372036854775808) :
    Calls Tryz.prog 96 #[NB n, .int .i64 lo, .int .i64 hi] w fun e w' => e = .returned (.bool (decide (lo ≤ n ∧ n ≤ hi))) ∧ Below w.heap.size w w' := by
  by_cases c : n < lo
  · have d : decide (0 ≤ cmpI n lo) = false := by rw [← cmpI_lt c]; rfl
    go_enter Tryz.func96, Tryz.ntmps96
    go_wp2
    have hc0 : ∀ x : Sub (w.alloc (Obj.cells #[Value.bool (decide (n < 0)), Value.int IntKind.u64 ↑n.natAbs] 151)), x.w.cell? ⟨w.heap.size, 0, none⟩ = some (.bool (decide (n < 0))) := fun x => by rw [x.cell _ _ (by simp)]; simp
    have hc1 : ∀ x : Sub (w.alloc (Obj.cells #[Value.bool (decide (n < 0)), Value.int IntKind.u64 ↑n.natAbs] 151)), x.w.cell? ⟨w.heap.size, 1, none⟩ = some (.int .u64 n.natAbs) := fun x => by rw [x.cell _ _ (by simp)]; simp
    refine wp_region_sub (by kernel_rfl) (by kernel_rfl) ?_
    repeat (first | go_big_quiet_skip | (go_big_quiet_want; go_big_quiet_op; first | go_big_quiet_on | (refine ⟨_, fun _ => rfl, ?_⟩; go_big_quiet_on) | go_big_quiet_call (first | (go_at_call 103; refine calls_sub (numberFrom_of _ _ ?_); first | exact g1 | exact g2) | (go_at_call 102; exact calls_sub (order_of _ _ _)))))
    refine wpQuiet_nil ?_
    rintro _ ⟨x, rfl⟩
    go_wp2
    go_ret
    exact ⟨ret_bool (by first | exact win_f n lo hi c | exact win_t n lo hi (by omega)), ((Below.refl _ _).alloc (Nat.le_refl _) _).trans (x.h.mono (by simp))⟩
  · have d : 0 ≤ cmpI n lo := by unfold cmpI; rw [if_neg c]; split <;> omega
    go_enter Tryz.func96, Tryz.ntmps96
    go_wp2
    have hc0 : ∀ x : Sub (w.alloc (Obj.cells #[Value.bool (decide (n < 0)), Value.int IntKind.u64 ↑n.natAbs] 151)), x.w.cell? ⟨w.heap.size, 0, none⟩ = some (.bool (decide (n < 0))) := fun x => by rw [x.cell _ _ (by simp)]; simp
    have hc1 : ∀ x : Sub (w.alloc (Obj.cells #[Value.bool (decide (n < 0)), Value.int IntKind.u64 ↑n.natAbs] 151)), x.w.cell? ⟨w.heap.size, 1, none⟩ = some (.int .u64 n.natAbs) := fun x => by rw [x.cell _ _ (by simp)]; simp
    refine wp_region_sub (by kernel_rfl) (by kernel_rfl) ?_
    repeat (first | go_big_quiet_skip | (go_big_quiet_want; go_big_quiet_op; first | go_big_quiet_on | (refine ⟨_, fun _ => rfl, ?_⟩; go_big_quiet_on) | go_big_quiet_call (first | (go_at_call 103; refine calls_sub (numberFrom_of _ _ ?_); first | exact g1 | exact g2) | (go_at_call 102; exact calls_sub (order_of _ _ _)))))
    refine wpQuiet_nil ?_
    rintro _ ⟨x, rfl⟩
    go_wp2
    go_ret
    exact ⟨ret_bool (by first | exact win_f n lo hi c | exact win_t n lo hi (by omega)), ((Below.refl _ _).alloc (Nat.le_refl _) _).trans (x.h.mono (by simp))⟩
end Go.Proofs.YtkickdmomompjaaGreat
namespace Go.Proofs.YtkickdmomompjaaGreat
set_option linter.unusedVariables false
open Go.RowKit
/-- An api.Type. -/
abbrev T (tk : Int) (sub : Bool) (lo hi mx : Int) (arr : Bool) (fr tz : Int) (bl : ByteArray) : Value :=
  .agg #[.int .u8 tk, .bool sub, .int .i64 lo, .int .i64 hi, .int .i64 mx, .bool arr, .int .i64 fr, .int .i64 tz, .string bl]
/-- The fault that keeps a value from a variable of a type. -/
def fitsF (k b : Int) (s : ByteArray) (tk : Int) (sub : Bool) (lo hi mx : Int) : Int :=
  if may3 k b s = false ∨ ¬ k = tk then 8 else if sub = true ∧ (2 ≤ k ∧ k ≤ 9) ∧ ¬ (lo ≤ num k b ∧ num k b ≤ hi) then 3
  else if k = 19 ∧ 1 ≤ mx ∧ mx < s.size then 5 else 0
set_option maxHeartbeats 400000 in
theorem isInteger_of (k : Int) (w : World) (p : Bool) (h : p = decide (2 ≤ k ∧ k ≤ 9)) : Calls Tryz.prog 95 #[.int .u8 k] w fun e w' => e = .returned (.bool p) ∧ w' = w := by
  subst h
  by_cases c : 2 ≤ k
  · by_cases d : k ≤ 9
    · go_enter Tryz.func95, Tryz.ntmps95
      go_wp2
      go_ret
      exact ⟨ret_bool (by simp [*]), rfl⟩
    · go_enter Tryz.func95, Tryz.ntmps95
      go_wp2
      go_ret
      exact ⟨ret_bool (by symm; simp; omega), rfl⟩
  · go_enter Tryz.func95, Tryz.ntmps95
    go_wp2
    go_ret
    exact ⟨ret_bool (by symm; simp; omega), rfl⟩
theorem fitsF_c1 (k b : Int) (s : ByteArray) (sub : Bool) (lo hi mx : Int) (c : may3 k b s = true) (d : ¬ (sub = true ∧ (2 ≤ k ∧ k ≤ 9) ∧ ¬ (lo ≤ num k b ∧ num k b ≤ hi))) : fitsF k b s k sub lo hi mx = if k = 19 ∧ 1 ≤ mx ∧ mx < s.size then 5 else 0 := by
  unfold fitsF; rw [if_neg (by simp [c]), if_neg d]
theorem fitsF_c2 (k b : Int) (s : ByteArray) (lo hi mx : Int) (c : may3 k b s = true) (e : 2 ≤ k ∧ k ≤ 9) (d : ¬ (lo ≤ num k b ∧ num k b ≤ hi)) : fitsF k b s k true lo hi mx = 3 := by
  unfold fitsF; rw [if_neg (by simp [c]), if_pos ⟨rfl, e, d⟩]
section
variable (tk : Int) (sub : Bool) (lo hi mx : Int) (arr : Bool) (fr tz : Int) (bl : ByteArray) (k b : Int) (s : ByteArray) (w : World)
set_option maxHeartbeats 400000 in
theorem Fits_a (h0 : 0 ≤ b) (h1 : b < 18446744073709551616) (hk : 0 ≤ k ∧ k < 256) (hs : s.size ≤ maxLen) (c : may3 k b s = false) :
    Calls Tryz.prog 80 #[T tk sub lo hi mx arr fr tz bl, V k b s] w fun e w' => e = .returned (.int .i64 (fitsF k b s tk sub lo hi mx)) ∧ Below w.heap.size w w' := by
  have R : Hid (8 = fitsF k b s tk sub lo hi mx) := by unfold fitsF; rw [if_pos (.inl c)]; rfl
  go_enter Tryz.func80, Tryz.ntmps80
  go_wp2_with (first | (go_at_call 83; refine (May_of _ _ _ _ h0 h1 hk hs).mono ?_; rintro e w1 ⟨rfl, hb⟩; obtain ⟨hc, hf⟩ := bcell hb))
  go_ret
  exact ⟨ret_int R.out, (((Below.refl _ _).alloc (Nat.le_refl _) _).alloc (by simp) _).trans (hb.mono (by simp; omega))⟩
set_option maxHeartbeats 400000 in
theorem Fits_b (h0 : 0 ≤ b) (h1 : b < 18446744073709551616) (hk : 0 ≤ k ∧ k < 256) (hs : s.size ≤ maxLen) (c : may3 k b s = true) (d : (k != tk) = true) :
    Calls Tryz.prog 80 #[T tk sub lo hi mx arr fr tz bl, V k b s] w fun e w' => e = .returned (.int .i64 (fitsF k b s tk sub lo hi mx)) ∧ Below w.heap.size w w' := by
  have R : Hid (8 = fitsF k b s tk sub lo hi mx) := by unfold fitsF; rw [if_pos (.inr (by simpa using d))]; rfl
  go_enter Tryz.func80, Tryz.ntmps80
  go_wp2_with (first | (go_at_call 83; refine (May_of _ _ _ _ h0 h1 hk hs).mono ?_; rintro e w1 ⟨rfl, hb⟩; obtain ⟨hc, hf⟩ := bcell hb))
  go_ret
  exact ⟨ret_int R.out, (((Below.refl _ _).alloc (Nat.le_refl _) _).alloc (by simp) _).trans (hb.mono (by simp; omega))⟩
set_option maxHeartbeats 1000000 in
theorem Fits_c (h0 : 0 ≤ b) (h1 : b < 18446744073709551616) (hk : 0 ≤ k ∧ k < 256) (hs : s.size ≤ maxLen) (c : may3 k b s = true) :
    Calls Tryz.prog 80 #[T k false lo hi mx arr fr tz bl, V k b s] w fun e w' => e = .returned (.int .i64 (fitsF k b s k false lo hi mx)) ∧ Below w.heap.size w w' := by
  have R : Hid (fitsF k b s k false lo hi mx = if k = 19 ∧ 1 ≤ mx ∧ mx < s.size then 5 else 0) := fitsF_c1 k b s false lo hi mx c (by simp)
  go_enter Tryz.func80, Tryz.ntmps80
  go_wp2_with (first | (go_at_call 83; refine (May_of _ _ _ _ h0 h1 hk hs).mono ?_; rintro e w1 ⟨rfl, hb⟩; obtain ⟨hc, hf⟩ := bcell hb))
  have hz : w.heap.size + 2 ≤ w1.heap.size := by have := hb.size; simp at this; omega
  have z0 : w.heap.size < w1.heap.size := by omega
  have z1 : w.heap.size + 1 < w1.heap.size := by omega
  have HB : Hid (Below w.heap.size w w1) := (((Below.refl _ _).alloc (Nat.le_refl _) _).alloc (by simp) _).trans (hb.mono (by simp; omega))
  clear hf hb hz
  have cx := fun (x : Sub w1) => x.cell
  refine wp_region_sub (by kernel_rfl) (by kernel_rfl) ?_
  repeat (first | go_big_quiet_skip | (go_big_quiet_want; go_big_quiet_op; first | go_big_quiet_on | (refine ⟨_, fun _ => rfl, ?_⟩; go_big_quiet_on) | go_big_quiet_call (fail)))
  refine wpQuiet_nil ?_
  rintro _ ⟨x, rfl⟩
  have HX : Hid (Below w.heap.size w x.w) := HB.out.trans (x.h.mono (by omega))
  unfold maxLen at hs
  go_wp2
  all_goals
    go_ret
    refine ⟨ret_int ?_, HX.out⟩
    first | rw [R.out] | (have e : k = 19 := (by assumption); rw [← e, R.out])
    first | rw [if_pos (by omega)] | rw [if_neg (by omega)]
set_option maxHeartbeats 1000000 in
theorem Fits_d (h0 : 0 ≤ b) (h1 : b < 18446744073709551616) (hk : 0 ≤ k ∧ k < 256) (hs : s.size ≤ maxLen) (c : may3 k b s = true) (i : ¬ (2 ≤ k ∧ k ≤ 9)) :
    Calls Tryz.prog 80 #[T k true lo hi mx arr fr tz bl, V k b s] w fun e w' => e = .returned (.int .i64 (fitsF k b s k true lo hi mx)) ∧ Below w.heap.size w w' := by
  have R : Hid (fitsF k b s k true lo hi mx = if k = 19 ∧ 1 ≤ mx ∧ mx < s.size then 5 else 0) := fitsF_c1 k b s true lo hi mx c (by simp only [true_and]; exact fun h => i h.1)
  have I : Hid (¬ (2 ≤ k ∧ k ≤ 9)) := i
  clear i
  go_enter Tryz.func80, Tryz.ntmps80
  go_wp2_with (first | (go_at_call 83; refine (May_of _ _ _ _ h0 h1 hk hs).mono ?_; rintro e w1 ⟨rfl, hb⟩; obtain ⟨hc, hf⟩ := bcell hb))
  have hz : w.heap.size + 2 ≤ w1.heap.size := by have := hb.size; simp at this; omega
  have z0 : w.heap.size < w1.heap.size := by omega
  have z1 : w.heap.size + 1 < w1.heap.size := by omega
  have HB : Hid (Below w.heap.size w w1) := (((Below.refl _ _).alloc (Nat.le_refl _) _).alloc (by simp) _).trans (hb.mono (by simp; omega))
  clear hf hb hz
  have cx := fun (x : Sub w1) => x.cell
  refine wp_region_sub (by kernel_rfl) (by kernel_rfl) ?_
  repeat (first | go_big_quiet_skip | (go_big_quiet_want; go_big_quiet_op; first | go_big_quiet_on | (refine ⟨_, fun _ => rfl, ?_⟩; go_big_quiet_on) | go_big_quiet_call (first | (go_at_call 95; exact calls_sub_same (isInteger_of _ _ false (by symm; simpa using I.out))))))
  refine wpQuiet_nil ?_
  rintro _ ⟨x, rfl⟩
  have HX : Hid (Below w.heap.size w x.w) := HB.out.trans (x.h.mono (by omega))
  unfold maxLen at hs
  go_wp2
  all_goals
    go_ret
    refine ⟨ret_int ?_, HX.out⟩
    first | rw [R.out] | (have e : k = 19 := (by assumption); rw [← e, R.out])
    first | rw [if_pos (by omega)] | rw [if_neg (by omega)]
set_option maxHeartbeats 1000000 in
theorem Fits_e (h0 : 0 ≤ b) (h1 : b < 18446744073709551616) (hk : 0 ≤ k ∧ k < 256) (hs : s.size ≤ maxLen) (c : may3 k b s = true) (i : 2 ≤ k ∧ k ≤ 9) (g1 : -9223372036854775808 ≤ lo ∧ lo < 9223372036854775808) (g2 : -9223372036854775808 ≤ hi ∧ hi < 9223372036854775808) (n : decide (lo ≤ num k b ∧ num k b ≤ hi) = true) :
    Calls Tryz.prog 80 #[T k true lo hi mx arr fr tz bl, V k b s] w fun e w' => e = .returned (.int .i64 (fitsF k b s k true lo hi mx)) ∧ Below w.heap.size w w' := by
  have R : Hid (fitsF k b s k true lo hi mx = if k = 19 ∧ 1 ≤ mx ∧ mx < s.size then 5 else 0) := fitsF_c1 k b s true lo hi mx c (by simp only [true_and]; exact fun h => h.2 (by simpa using n))
  have I : Hid (2 ≤ k ∧ k ≤ 9) := i
  clear i
  go_enter Tryz.func80, Tryz.ntmps80
  go_wp2_with (first | (go_at_call 83; refine (May_of _ _ _ _ h0 h1 hk hs).mono ?_; rintro e w1 ⟨rfl, hb⟩; obtain ⟨hc, hf⟩ := bcell hb))
  have hz : w.heap.size + 2 ≤ w1.heap.size := by have := hb.size; simp at this; omega
  have z0 : w.heap.size < w1.heap.size := by omega
  have z1 : w.heap.size + 1 < w1.heap.size := by omega
  have HB : Hid (Below w.heap.size w w1) := (((Below.refl _ _).alloc (Nat.le_refl _) _).alloc (by simp) _).trans (hb.mono (by simp; omega))
  clear hf hb hz
  have cx := fun (x : Sub w1) => x.cell
  refine wp_region_sub (by kernel_rfl) (by kernel_rfl) ?_
  repeat (first | go_big_quiet_skip | (go_big_quiet_want; go_big_quiet_op; first | go_big_quiet_on | (refine ⟨_, fun _ => rfl, ?_⟩; go_big_quiet_on) | go_big_quiet_call (first | (go_at_call 95; exact calls_sub_same (isInteger_of _ _ true (by symm; simpa using I.out))) | (go_at_call 97; exact calls_sub (numberOf_of _ _ _ _ h0 h1)) | (go_at_call 96; exact calls_sub (within_of _ _ _ _ g1 g2)))))
  refine wpQuiet_nil ?_
  rintro _ ⟨x, rfl⟩
  have HX : Hid (Below w.heap.size w x.w) := HB.out.trans (x.h.mono (by omega))
  unfold maxLen at hs
  go_wp2
  all_goals
    go_ret
    refine ⟨ret_int ?_, HX.out⟩
    first | rw [R.out] | (have e : k = 19 := (by assumption); rw [← e, R.out])
    first | rw [if_pos (by omega)] | rw [if_neg (by omega)]
set_option maxHeartbeats 1000000 in
theorem Fits_f (h0 : 0 ≤ b) (h1 : b < 18446744073709551616) (hk : 0 ≤ k ∧ k < 256) (hs : s.size ≤ maxLen) (c : may3 k b s = true) (i : 2 ≤ k ∧ k ≤ 9) (g1 : -9223372036854775808 ≤ lo ∧ lo < 9223372036854775808) (g2 : -9223372036854775808 ≤ hi ∧ hi < 9223372036854775808) (n : decide (lo ≤ num k b ∧ num k b ≤ hi) = false) :
    Calls Tryz.prog 80 #[T k true lo hi mx arr fr tz bl, V k b s] w fun e w' => e = .returned (.int .i64 (fitsF k b s k true lo hi mx)) ∧ Below w.heap.size w w' := by
  have R : Hid (3 = fitsF k b s k true lo hi mx) := (fitsF_c2 k b s lo hi mx c i (by simpa using n)).symm
  have I : Hid (2 ≤ k ∧ k ≤ 9) := i
  clear i
  go_enter Tryz.func80, Tryz.ntmps80
  go_wp2_with (first | (go_at_call 83; refine (May_of _ _ _ _ h0 h1 hk hs).mono ?_; rintro e w1 ⟨rfl, hb⟩; obtain ⟨hc, hf⟩ := bcell hb))
  have hz : w.heap.size + 2 ≤ w1.heap.size := by have := hb.size; simp at this; omega
  have z0 : w.heap.size < w1.heap.size := by omega
  have z1 : w.heap.size + 1 < w1.heap.size := by omega
  have HB : Hid (Below w.heap.size w w1) := (((Below.refl _ _).alloc (Nat.le_refl _) _).alloc (by simp) _).trans (hb.mono (by simp; omega))
  clear hf hb hz
  have cx := fun (x : Sub w1) => x.cell
  refine wp_region_sub (by kernel_rfl) (by kernel_rfl) ?_
  repeat (first | go_big_quiet_skip | (go_big_quiet_want; go_big_quiet_op; first | go_big_quiet_on | (refine ⟨_, fun _ => rfl, ?_⟩; go_big_quiet_on) | go_big_quiet_call (first | (go_at_call 95; exact calls_sub_same (isInteger_of _ _ true (by symm; simpa using I.out))) | (go_at_call 97; exact calls_sub (numberOf_of _ _ _ _ h0 h1)) | (go_at_call 96; exact calls_sub (within_of _ _ _ _ g1 g2)))))
  refine wpQuiet_nil ?_
  rintro _ ⟨x, rfl⟩
  have HX : Hid (Below w.heap.size w x.w) := HB.out.trans (x.h.mono (by omega))
  go_wp2
  go_ret
  exact ⟨ret_int R.out, HX.out⟩
theorem Fits_of (h0 : 0 ≤ b) (h1 : b < 18446744073709551616) (hk : 0 ≤ k ∧ k < 256) (hs : s.size ≤ maxLen) (g1 : -9223372036854775808 ≤ lo ∧ lo < 9223372036854775808) (g2 : -9223372036854775808 ≤ hi ∧ hi < 9223372036854775808) :
    Calls Tryz.prog 80 #[T tk sub lo hi mx arr fr tz bl, V k b s] w fun e w' => e = .returned (.int .i64 (fitsF k b s tk sub lo hi mx)) ∧ Below w.heap.size w w' := by
  cases c : may3 k b s
  · exact Fits_a tk sub lo hi mx arr fr tz bl k b s w h0 h1 hk hs c
  by_cases d : k = tk
  · subst d
    cases sub
    · exact Fits_c lo hi mx arr fr tz bl k b s w h0 h1 hk hs c
    by_cases i : 2 ≤ k ∧ k ≤ 9
    · cases n : decide (lo ≤ num k b ∧ num k b ≤ hi)
      · exact Fits_f lo hi mx arr fr tz bl k b s w h0 h1 hk hs c i g1 g2 n
      · exact Fits_e lo hi mx arr fr tz bl k b s w h0 h1 hk hs c i g1 g2 n
    · exact Fits_d lo hi mx arr fr tz bl k b s w h0 h1 hk hs c i
  · exact Fits_b tk sub lo hi mx arr fr tz bl k b s w h0 h1 hk hs c (by simpa using d)
end
end Go.Proofs.YtkickdmomompjaaGreat
namespace Go.Proofs.YtkickdmomompjaaGreat
set_option linter.unusedVariables false
open Go.RowKit
theorem wf_i64 {n : Int} (h : wfI .i64 n) : -9223372036854775808 ≤ n ∧ n < 9223372036854775808 := by
  have := h
  unfold wfI Lit.wf at this
  simp only [Bool.and_eq_true, decide_eq_true_eq] at this
  have a : (IntKind.i64).min = -9223372036854775808 := by decide
  have b : (IntKind.i64).max = 9223372036854775807 := by decide
  rw [a, b] at this
  omega
theorem wf_u8 {n : Int} (h : wfI .u8 n) : 0 ≤ n ∧ n < 256 := by
  have := h
  unfold wfI Lit.wf at this
  simp only [Bool.and_eq_true, decide_eq_true_eq] at this
  have a : (IntKind.u8).min = 0 := by decide
  have b : (IntKind.u8).max = 255 := by decide
  rw [a, b] at this
  omega
theorem wf_u64 {n : Int} (h : wfI .u64 n) : 0 ≤ n ∧ n < 18446744073709551616 := by
  have := h
  unfold wfI Lit.wf at this
  simp only [Bool.and_eq_true, decide_eq_true_eq] at this
  have a : (IntKind.u64).min = 0 := by decide
  have b : (IntKind.u64).max = 18446744073709551615 := by decide
  rw [a, b] at this
  omega
theorem sh_max {s : ByteArray} (h : shT s) : s.size ≤ maxLen := Nat.le_trans h (by decide)
/-- Does a number lie between two? -/
def inB (a b x : Int) : Bool := decide (a ≤ x) && decide (x ≤ b)
/-- How many bits of an address a kind takes. -/
def wdK (k : Int) : Int := if k = 1 then 1 else if k = 2 ∨ k = 6 ∨ k = 10 then 8 else if k = 3 ∨ k = 7 ∨ k = 11 then 16 else if k = 4 ∨ k = 8 ∨ k = 12 then 32 else if k = 5 ∨ k = 9 ∨ k = 13 then 64 else 0
/-- Is a text empty? -/
def emB (s : ByteArray) : Bool := s.toList.isEmpty
def bdB (c : CeR) : Bool := (if c.sb = true then inB 2 9 c.kd && decide (c.lo ≤ c.hi) else decide (c.lo = 0) && decide (c.hi = 0)) && (if c.kd = 19 then inB 0 254 c.mx else decide (c.mx = 0))
def nwB (k b : Int) (s : ByteArray) : Bool := decide (k = 20) && decide (b = 0) && emB s
def bgB (c : CeR) : Bool := if c.kd = 20 then nwB c.ik c.ib c.is else decide (fitsF c.ik c.ib c.is c.kd c.sb c.lo c.hi c.mx = 0)
/-- An address of a direction, of so many bits. -/
def adB (s : ByteArray) (d n : Int) : Bool := addrB s && decide (dirN (byt s 1) = d) && decide (bitN (byt s 2) = n)
def liB (c : CeR) : Bool := inB 0 2 c.dr && (if emB c.ad = true then decide (c.dr = 0) else adB c.ad c.dr (wdK c.kd) && !c.sb)
/-- May a cell be, others aside? -/
def ceB (c : CeR) : Bool := inB 1 20 c.kd && !(decide (c.kd = 20) && c.kp) && bdB c && bgB c && liB c
/-- May the cell number i be? -/
def ceAt (l : List CeR) (i : Nat) : Bool := match l[i]? with
  | some c => ceB c && (emB c.ad || (l.take i).all (fun x => decide (¬ x.ad = c.ad)))
  | none => true
/-- The spans of an instruction's four fields. -/
def spO (cd rg sl n cs : Int) : (Int × Int) × (Int × Int) × (Int × Int) × (Int × Int) :=
  if cd = 1 ∨ cd = 12 ∨ cd = 14 ∨ cd = 15 then ((0, rg), (0, 0), (0, 0), (0, 0))
  else if cd = 2 then ((0, rg), (0, rg), (0, 0), (0, 0))
  else if cd = 3 ∨ cd = 4 ∨ cd = 7 then ((0, rg), (1, 3), (0, 4096), (0, 0))
  else if cd = 5 ∨ cd = 6 ∨ cd = 8 then ((0, rg), (1, 3), (0, 4096), (0, rg))
  else if cd = 9 then ((0, rg), (0, rg), (0, rg), (1, 14))
  else if cd = 10 then ((0, rg), (0, rg), (0, 0), (15, 16))
  else if cd = 11 then ((0, rg), (0, rg), (0, 0), (1, 19))
  else if cd = 13 then ((0, rg), (0, 0), (0, 16), (0, 255))
  else if cd = 16 then ((0, 0), (0, n), (0, 0), (0, 0))
  else if cd = 17 then ((0, rg), (0, n), (0, 0), (0, 0))
  else if cd = 18 then ((0, 0), (0, cs), (1, 3), (0, 4096))
  else if cd = 19 then ((0, 0), (1, 10), (1, 3), (0, 4096))
  else if cd = 20 then ((1, 10), (0, 0), (0, 0), (0, 0))
  else if cd = 22 ∨ cd = 23 then ((0, rg), (0, sl), (0, 0), (0, 0))
  else ((0, 0), (0, 0), (0, 0), (0, 0))
/-- May an instruction's bounds be? -/
def rcB (o : OpR) : Bool :=
  if o.cd = 5 ∨ o.cd = 6 ∨ o.cd = 8 then decide (o.lo ≤ o.hi) && decide (o.hi - o.lo < 256)
  else if o.cd = 14 then decide (o.lo ≤ o.hi)
  else if o.cd = 15 then decide (o.lo = 0) && inB 0 254 o.hi
  else decide (o.lo = 0) && decide (o.hi = 0)
/-- May an instruction's value be? -/
def hdB (o : OpR) : Bool := if o.cd = 1 then may3 o.vk o.vb o.vs || nwB o.vk o.vb o.vs else decide (o.vk = 0) && decide (o.vb = 0) && emB o.vs
def spB (s : (Int × Int) × (Int × Int) × (Int × Int) × (Int × Int)) (o : OpR) : Bool := inB s.1.1 s.1.2 o.a && inB s.2.1.1 s.2.1.2 o.b && inB s.2.2.1.1 s.2.2.1.2 o.c && inB s.2.2.2.1 s.2.2.2.2 o.d
/-- May an instruction of a code be, beside so many codes? -/
def opB (o : OpR) (rg sl n cs : Int) : Bool := inB 1 23 o.cd && spB (spO o.cd (rg - 1) (sl - 1) (n - 1) (cs - 1)) o && rcB o && hdB o
/-- So many cells from a base on. -/
def ftB (ba sz n : Int) : Bool := decide (0 ≤ ba) && decide (ba ≤ n - sz)
def stB (f : FlR) (n : Int) : Bool := inB 1 3 f.wh && inB 0 4096 f.ce && (decide (f.ba = -1) || (decide (f.wh = 1) && ftB f.ba f.ce n)) && inB 0 8 f.rg && inB 0 1024 f.sl
def enB (f : FlR) : Bool := match f.os.getLast? with
  | some o => decide (o.cd = 16 ∨ o.cd = 20 ∨ o.cd = 21)
  | none => false
def lpB (n : Int) (l : LpR) : Bool := decide (0 ≤ l.hd) && decide (l.hd ≤ l.en) && decide (l.en ≤ n) && inB 0 65536 l.tm
def lsB (f : FlR) : Bool := f.ls.all (lpB f.os.length)
def coB (f : FlR) (n : Int) : Bool := stB f n && enB f && lsB f
/-- The first of so many that is not so. -/
def fstN (f : Nat → Bool) (n : Nat) : Option Nat := (List.range n).find? (fun i => !f i)
theorem fstN_some {f : Nat → Bool} {n k : Nat} (hk : k < n) (h : ∀ j, j < k → f j = true) (hf : f k = false) : fstN f n = some k := by
  unfold fstN
  rw [List.find?_range_eq_some]
  refine ⟨by simp [hf], List.mem_range.2 hk, fun j hj => by simp [h j hj]⟩
theorem fstN_none {f : Nat → Bool} {n : Nat} (h : ∀ j, j < n → f j = true) : fstN f n = none := by
  unfold fstN
  rw [List.find?_range_eq_none]
  exact fun j hj => by simp [h j hj]
/-- How many instructions the first codes have. -/
def totN (l : List FlR) (i : Nat) : Nat := ((l.take (i + 1)).map (fun f => f.os.length)).sum
/-- May the instruction number p of a code be? -/
def opAt (f : FlR) (cs : Int) (p : Nat) : Bool := match f.os[p]? with
  | some o => opB o f.rg f.sl f.os.length cs
  | none => true
/-- What is wrong with the code number i: a place and an error; the error 0: nothing. -/
def flAt (m : ImR) (i : Nat) : Int × Int := match m.fs[i]? with
  | none => (0, 0)
  | some f => if nameB f.nm = false then (0, 6) else if coB f m.cs.length = false then (0, 202) else if 16384 < totN m.fs i ∨ 16384 < f.ls.length then (0, 4)
    else match fstN (opAt f m.fs.length) f.os.length with
    | some p => (p, 202)
    | none => (0, 0)
/-- May the runs of a task be? -/
def runB (m : ImR) (c b : Int) : Bool := decide (0 ≤ c) && decide (c < m.fs.length) && (match m.fs[c.toNat]? with
  | some f => decide (f.wh = 3) && ftB b f.ce m.cs.length
  | none => false)
def trB (m : ImR) (j : JbR) : Bool := (decide (j.sg = -1) || (decide (0 ≤ j.sg) && decide (j.sg < m.cs.length) && (match m.cs[j.sg.toNat]? with
  | some c => decide (c.kd = 1)
  | none => false))) && decide (0 ≤ j.iv) && inB 0 65535 j.pr && inB 0 1048576 j.bd
def rnB (m : ImR) (j : JbR) : Bool := decide (j.cs.length = j.bs.length) && decide (j.cs.length ≤ 32) && (List.range j.cs.length).all (fun i => runB m (j.cs.getD i 0) (j.bs.getD i 0))
/-- What is wrong with the task number i; 0: nothing. -/
def jbAt (m : ImR) (i : Nat) : Int := match m.js[i]? with
  | none => 0
  | some j => if ((m.js.take i).any (fun x => decide (x.nm = j.nm)) || !nameB j.nm) = true then 6 else if (trB m j && rnB m j) = true then 0 else 204
/-- What Check answers: two numbers and an error. -/
def chk (m : ImR) : Int × Int × Int :=
  if nameB m.nm = false then (0, 0, 6) else if 4096 < m.cs.length then (4096, 0, 4) else if 64 < m.fs.length then (64, 0, 4) else if 16 < m.js.length then (16, 0, 4)
  else match fstN (ceAt m.cs) m.cs.length with
  | some i => (i, 0, 203)
  | none => match fstN (fun i => decide ((flAt m i).2 = 0)) m.fs.length with
    | some i => (i, (flAt m i).1, (flAt m i).2)
    | none => match fstN (fun i => decide (jbAt m i = 0)) m.js.length with
      | some i => (i, 0, jbAt m i)
      | none => (0, 0, 0)
end Go.Proofs.YtkickdmomompjaaGreat
namespace Go.Proofs.YtkickdmomompjaaGreat
set_option linter.unusedVariables false
open Go.RowKit
set_option maxHeartbeats 1000000 in
theorem has_of (a b x : Int) (w : World) : Calls Tryz.prog 63 #[.agg #[.int .i64 a, .int .i64 b], .int .i64 x] w fun e w' => e = .returned (.bool (inB a b x)) ∧ Below w.heap.size w w' := by
  unfold inB
  by_cases c : a ≤ x
  · by_cases d : x ≤ b
    · rw [decide_eq_true c, decide_eq_true d]
      go_enter Tryz.func63, Tryz.ntmps63
      go_wp2
      go_ret
      exact ⟨rfl, by go_grown⟩
    · rw [decide_eq_true c, decide_eq_false d]
      go_enter Tryz.func63, Tryz.ntmps63
      go_wp2
      go_ret
      exact ⟨rfl, by go_grown⟩
  · rw [decide_eq_false c]
    go_enter Tryz.func63, Tryz.ntmps63
    go_wp2
    go_ret
    exact ⟨rfl, by go_grown⟩
set_option maxHeartbeats 1000000 in
theorem below_of (n : Int) (h : -9223372036854775808 < n ∧ n < 9223372036854775808) (w : World) : Calls Tryz.prog 68 #[.int .i64 n] w fun e w' => e = .returned (.agg #[.int .i64 0, .int .i64 (n - 1)]) ∧ Below w.heap.size w w' := by
  have e : wrap64 (n - 1) = n - 1 := by unfold wrap64; omega
  go_enter Tryz.func68, Tryz.ntmps68
  go_wp2
  exact bodyPost_ret (v := .agg #[.int .i64 0, .int .i64 (n - 1)]) (by simp [results, Tryz.results68, go_sem]) rfl ⟨rfl, by go_grown⟩
set_option maxHeartbeats 1000000 in
theorem fits_of (ba sz n : Int) (w : World) (h : 0 ≤ sz ∧ sz ≤ 4096) (hn : 0 ≤ n ∧ n ≤ 4611686018427387904) : Calls Tryz.prog 64 #[.int .i64 ba, .int .i64 sz, .int .i64 n] w fun e w' => e = .returned (.bool (ftB ba sz n)) ∧ w' = w := by
  unfold ftB
  have e : wrap64 (n - sz) = n - sz := by unfold wrap64; omega
  by_cases c : 0 ≤ ba
  · by_cases d : ba ≤ n - sz
    · rw [decide_eq_true c, decide_eq_true d]
      go_enter Tryz.func64, Tryz.ntmps64
      go_wp2
      go_ret
      exact ⟨rfl, rfl⟩
    · rw [decide_eq_true c, decide_eq_false d]
      go_enter Tryz.func64, Tryz.ntmps64
      go_wp2
      go_ret
      exact ⟨rfl, rfl⟩
  · rw [decide_eq_false c]
    go_enter Tryz.func64, Tryz.ntmps64
    go_wp2
    go_ret
    exact ⟨rfl, rfl⟩
set_option maxHeartbeats 1000000 in
theorem isIntI_of (k : Int) (w : World) : Calls Tryz.prog 78 #[.int .u8 k] w fun e w' => e = .returned (.bool (inB 2 9 k)) ∧ w' = w := by
  unfold inB
  by_cases c : 2 ≤ k
  · by_cases d : k ≤ 9
    · rw [decide_eq_true c, decide_eq_true d]
      go_enter Tryz.func78, Tryz.ntmps78
      go_wp2
      go_ret
      exact ⟨rfl, rfl⟩
    · rw [decide_eq_true c, decide_eq_false d]
      go_enter Tryz.func78, Tryz.ntmps78
      go_wp2
      go_ret
      exact ⟨rfl, rfl⟩
  · rw [decide_eq_false c]
    go_enter Tryz.func78, Tryz.ntmps78
    go_wp2
    go_ret
    exact ⟨rfl, rfl⟩
set_option maxHeartbeats 1000000 in
theorem nowhere_of (w : World) : Calls Tryz.prog 79 #[] w fun e w' => e = .returned (.agg #[.int .u8 20, .int .u64 0, .string ⟨#[]⟩]) ∧ Below w.heap.size w w' := by
  go_enter Tryz.func79, Tryz.ntmps79
  go_wp2
  exact bodyPost_ret (v := .agg #[.int .u8 20, .int .u64 0, .string ⟨#[]⟩]) (by simp [results, Tryz.results79, go_sem]) rfl ⟨rfl, by go_grown⟩
theorem kinds20 (k : Int) (h : 1 ≤ k ∧ k ≤ 20) : k = 1 ∨ k = 2 ∨ k = 3 ∨ k = 4 ∨ k = 5 ∨ k = 6 ∨ k = 7 ∨ k = 8 ∨ k = 9 ∨ k = 10 ∨ k = 11 ∨ k = 12 ∨ k = 13 ∨ k = 14 ∨ k = 15 ∨ k = 16 ∨ k = 17 ∨ k = 18 ∨ k = 19 ∨ k = 20 := by omega
set_option maxHeartbeats 4000000 in
theorem widthI_of (k : Int) (h : 1 ≤ k ∧ k ≤ 20) (w : World) : Calls Tryz.prog 82 #[.int .u8 k] w fun e w' => e = .returned (.int .i64 (wdK k)) ∧ w' = w := by
  rcases kinds20 k h with rfl | rfl | rfl | rfl | rfl | rfl | rfl | rfl | rfl | rfl | rfl | rfl | rfl | rfl | rfl | rfl | rfl | rfl | rfl | rfl
  all_goals
    go_enter Tryz.func82, Tryz.ntmps82
    go_wp2
    go_ret
    exact ⟨rfl, rfl⟩
end Go.Proofs.YtkickdmomompjaaGreat
namespace Go.Proofs.YtkickdmomompjaaGreat
set_option linter.unusedVariables false
open Go.RowKit
set_option maxRecDepth 100000 in
theorem arr4 (kb o c : Nat) (w : World) : (Instr.arrayAt 42 (.slice (some ⟨kb, o, none⟩) 4 c)).run Tryz.prog w = .ok (.pointer (some ⟨kb, o, none⟩)) w := by
  first
    | kernel_rfl
    | kernel_rfl
    | (simp [Instr.arrayAt]; done)
theorem wf8 (n : Int) (h : 0 ≤ n) (k : n < 256) : (Lit.int .u8 n).wf = true := by
  show (decide ((0 : Int) ≤ n) && decide (n ≤ (255 : Int))) = true
  simp
  omega
theorem kl1 (n : Int) (h : (Lit.int .u8 n).wf = true) : Tryz.prog.keyLits 1 5 [.int .u8 n] = some [.int .u8 n] := by
  unfold Program.keyLits
  simp [Tryz.underlying5, h]
theorem cl1 : Tryz.prog.cellsOf 5 = 1 := by kernel_rfl
theorem cl4 : Tryz.prog.cellsOf 42 = 4 := by kernel_rfl
theorem kl4 (a b c d : Int) (ha : (Lit.int .u8 a).wf = true) (hb : (Lit.int .u8 b).wf = true) (hc : (Lit.int .u8 c).wf = true) (hd : (Lit.int .u8 d).wf = true) : Tryz.prog.keyLits 2 42 [.int .u8 a, .int .u8 b, .int .u8 c, .int .u8 d] = some [.int .u8 a, .int .u8 b, .int .u8 c, .int .u8 d] := by
  unfold Program.keyLits
  simp only [Tryz.underlying42, cl4, cl1, List.length_cons, List.length_nil, if_true]
  have e : List.range 4 = [0, 1, 2, 3] := rfl
  rw [e]
  simp [kl1, ha, hb, hc, hd]
set_option maxRecDepth 100000 in
theorem eqA4 (a0 a1 a2 a3 b0 b1 b2 b3 : Int) (w : World) (h0 : (Lit.int .u8 a0).wf = true) (h1 : (Lit.int .u8 a1).wf = true) (h2 : (Lit.int .u8 a2).wf = true) (h3 : (Lit.int .u8 a3).wf = true) (k0 : (Lit.int .u8 b0).wf = true) (k1 : (Lit.int .u8 b1).wf = true) (k2 : (Lit.int .u8 b2).wf = true) (k3 : (Lit.int .u8 b3).wf = true) : (Op.equalIn 10000 42 (.agg #[.int .u8 a0, .int .u8 a1, .int .u8 a2, .int .u8 a3]) (.agg #[.int .u8 b0, .int .u8 b1, .int .u8 b2, .int .u8 b3])).run Tryz.prog w = .ok (decide (a0 = b0 ∧ a1 = b1 ∧ a2 = b2 ∧ a3 = b3)) w := by
  obtain ⟨r, h, hr⟩ := run_equalIn_deep (P := Tryz.prog) 9998 2 42 (by kernel_rfl) w 2 2 (.agg #[.int .u8 a0, .int .u8 a1, .int .u8 a2, .int .u8 a3]) (.agg #[.int .u8 b0, .int .u8 b1, .int .u8 b2, .int .u8 b3]) _ _ (by kernel_rfl) (by kernel_rfl) (kl4 a0 a1 a2 a3 h0 h1 h2 h3) (kl4 b0 b1 b2 b3 k0 k1 k2 k3)
  have e : r = decide (a0 = b0 ∧ a1 = b1 ∧ a2 = b2 ∧ a3 = b3) := by
    cases r <;> simp_all
  rw [← e]
  exact h
end Go.Proofs.YtkickdmomompjaaGreat
