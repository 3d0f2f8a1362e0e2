/- What value.Fits answers, for every type and value; no statement of the seat is proved here. -/
import Derived.Test.YtpcjnhffpkpchaaGreatYa5
namespace Go.Proofs.YtpcjnhffpkpchaaGreat
set_option linter.unusedVariables false
open Go.RowKit
/-- An api.Type. -/
abbrev T (tk : Int) (sub : Bool) (lo hi mx : Int) (arr : Bool) (fr to : Int) (bl : ByteArray) : Value :=
  .agg #[.int .u8 tk, .bool sub, .int .i64 lo, .int .i64 hi, .int .i64 mx, .bool arr, .int .i64 fr, .int .i64 to, .string bl]
/-- The fault that keeps a value from a variable of a type. -/
def fitsF (k b : Int) (s : ByteArray) (tk : Int) (sub : Bool) (lo hi mx : Int) : Int :=
  if may3 k b s = false ∨ ¬ k = tk then 8 else if sub = true ∧ (2 ≤ k ∧ k ≤ 9) ∧ ¬ (lo ≤ num k b ∧ num k b ≤ hi) then 3
  else if k = 19 ∧ 1 ≤ mx ∧ mx < s.size then 5 else 0
set_option maxHeartbeats 400000 in
theorem isInteger_of (k : Int) (w : World) (p : Bool) (h : p = decide (2 ≤ k ∧ k ≤ 9)) : Calls Tryz.prog 113 #[.int .u8 k] w fun e w' => e = .returned (.bool p) ∧ w' = w := by
  subst h
  by_cases c : 2 ≤ k
  · by_cases d : k ≤ 9
    · go_enter Tryz.func113, Tryz.ntmps113
      go_wp2
      go_ret
      exact ⟨ret_bool (by simp [*]), rfl⟩
    · go_enter Tryz.func113, Tryz.ntmps113
      go_wp2
      go_ret
      exact ⟨ret_bool (by symm; simp; omega), rfl⟩
  · go_enter Tryz.func113, Tryz.ntmps113
    go_wp2
    go_ret
    exact ⟨ret_bool (by symm; simp; omega), rfl⟩
theorem fitsF_c1 (k b : Int) (s : ByteArray) (sub : Bool) (lo hi mx : Int) (c : may3 k b s = true) (d : ¬ (sub = true ∧ (2 ≤ k ∧ k ≤ 9) ∧ ¬ (lo ≤ num k b ∧ num k b ≤ hi))) : fitsF k b s k sub lo hi mx = if k = 19 ∧ 1 ≤ mx ∧ mx < s.size then 5 else 0 := by
  unfold fitsF; rw [if_neg (by simp [c]), if_neg d]
theorem fitsF_c2 (k b : Int) (s : ByteArray) (lo hi mx : Int) (c : may3 k b s = true) (e : 2 ≤ k ∧ k ≤ 9) (d : ¬ (lo ≤ num k b ∧ num k b ≤ hi)) : fitsF k b s k true lo hi mx = 3 := by
  unfold fitsF; rw [if_neg (by simp [c]), if_pos ⟨rfl, e, d⟩]
section
variable (tk : Int) (sub : Bool) (lo hi mx : Int) (arr : Bool) (fr to : Int) (bl : ByteArray) (k b : Int) (s : ByteArray) (w : World)
set_option maxHeartbeats 400000 in
theorem Fits_a (h0 : 0 ≤ b) (h1 : b < 18446744073709551616) (hk : 0 ≤ k ∧ k < 256) (hs : s.size ≤ maxLen) (c : may3 k b s = false) :
    Calls Tryz.prog 103 #[T tk sub lo hi mx arr fr to bl, V k b s] w fun e w' => e = .returned (.int .i64 (fitsF k b s tk sub lo hi mx)) ∧ Below w.heap.size w w' := by
  have R : Hid (8 = fitsF k b s tk sub lo hi mx) := by unfold fitsF; rw [if_pos (.inl c)]; rfl
  go_enter Tryz.func103, Tryz.ntmps103
  go_wp2_with (first | (go_at_call 106; refine (May_of _ _ _ _ h0 h1 hk hs).mono ?_; rintro e w1 ⟨rfl, hb⟩; obtain ⟨hc, hf⟩ := bcell hb))
  go_ret
  exact ⟨ret_int R.out, (((Below.refl _ _).alloc (Nat.le_refl _) _).alloc (by simp) _).trans (hb.mono (by simp; omega))⟩
set_option maxHeartbeats 400000 in
theorem Fits_b (h0 : 0 ≤ b) (h1 : b < 18446744073709551616) (hk : 0 ≤ k ∧ k < 256) (hs : s.size ≤ maxLen) (c : may3 k b s = true) (d : (k != tk) = true) :
    Calls Tryz.prog 103 #[T tk sub lo hi mx arr fr to bl, V k b s] w fun e w' => e = .returned (.int .i64 (fitsF k b s tk sub lo hi mx)) ∧ Below w.heap.size w w' := by
  have R : Hid (8 = fitsF k b s tk sub lo hi mx) := by unfold fitsF; rw [if_pos (.inr (by simpa using d))]; rfl
  go_enter Tryz.func103, Tryz.ntmps103
  go_wp2_with (first | (go_at_call 106; refine (May_of _ _ _ _ h0 h1 hk hs).mono ?_; rintro e w1 ⟨rfl, hb⟩; obtain ⟨hc, hf⟩ := bcell hb))
  go_ret
  exact ⟨ret_int R.out, (((Below.refl _ _).alloc (Nat.le_refl _) _).alloc (by simp) _).trans (hb.mono (by simp; omega))⟩
set_option maxHeartbeats 1000000 in
theorem Fits_c (h0 : 0 ≤ b) (h1 : b < 18446744073709551616) (hk : 0 ≤ k ∧ k < 256) (hs : s.size ≤ maxLen) (c : may3 k b s = true) :
    Calls Tryz.prog 103 #[T k false lo hi mx arr fr to bl, V k b s] w fun e w' => e = .returned (.int .i64 (fitsF k b s k false lo hi mx)) ∧ Below w.heap.size w w' := by
  have R : Hid (fitsF k b s k false lo hi mx = if k = 19 ∧ 1 ≤ mx ∧ mx < s.size then 5 else 0) := fitsF_c1 k b s false lo hi mx c (by simp)
  go_enter Tryz.func103, Tryz.ntmps103
  go_wp2_with (first | (go_at_call 106; refine (May_of _ _ _ _ h0 h1 hk hs).mono ?_; rintro e w1 ⟨rfl, hb⟩; obtain ⟨hc, hf⟩ := bcell hb))
  have hz : w.heap.size + 2 ≤ w1.heap.size := by have := hb.size; simp at this; omega
  have z0 : w.heap.size < w1.heap.size := by omega
  have z1 : w.heap.size + 1 < w1.heap.size := by omega
  have HB : Hid (Below w.heap.size w w1) := (((Below.refl _ _).alloc (Nat.le_refl _) _).alloc (by simp) _).trans (hb.mono (by simp; omega))
  clear hf hb hz
  have cx := fun (x : Sub w1) => x.cell
  refine wp_region_sub (by kernel_rfl) (by kernel_rfl) ?_
  repeat (first | go_big_quiet_skip | (go_big_quiet_want; go_big_quiet_op; first | go_big_quiet_on | (refine ⟨_, fun _ => rfl, ?_⟩; go_big_quiet_on) | go_big_quiet_call (fail)))
  refine wpQuiet_nil ?_
  rintro _ ⟨x, rfl⟩
  have HX : Hid (Below w.heap.size w x.w) := HB.out.trans (x.h.mono (by omega))
  unfold maxLen at hs
  go_wp2
  all_goals
    go_ret
    refine ⟨ret_int ?_, HX.out⟩
    first | rw [R.out] | (have e : k = 19 := (by assumption); rw [← e, R.out])
    first | rw [if_pos (by omega)] | rw [if_neg (by omega)]
set_option maxHeartbeats 1000000 in
theorem Fits_d (h0 : 0 ≤ b) (h1 : b < 18446744073709551616) (hk : 0 ≤ k ∧ k < 256) (hs : s.size ≤ maxLen) (c : may3 k b s = true) (i : ¬ (2 ≤ k ∧ k ≤ 9)) :
    Calls Tryz.prog 103 #[T k true lo hi mx arr fr to bl, V k b s] w fun e w' => e = .returned (.int .i64 (fitsF k b s k true lo hi mx)) ∧ Below w.heap.size w w' := by
  have R : Hid (fitsF k b s k true lo hi mx = if k = 19 ∧ 1 ≤ mx ∧ mx < s.size then 5 else 0) := fitsF_c1 k b s true lo hi mx c (by simp only [true_and]; exact fun h => i h.1)
  have I : Hid (¬ (2 ≤ k ∧ k ≤ 9)) := i
  clear i
  go_enter Tryz.func103, Tryz.ntmps103
  go_wp2_with (first | (go_at_call 106; refine (May_of _ _ _ _ h0 h1 hk hs).mono ?_; rintro e w1 ⟨rfl, hb⟩; obtain ⟨hc, hf⟩ := bcell hb))
  have hz : w.heap.size + 2 ≤ w1.heap.size := by have := hb.size; simp at this; omega
  have z0 : w.heap.size < w1.heap.size := by omega
  have z1 : w.heap.size + 1 < w1.heap.size := by omega
  have HB : Hid (Below w.heap.size w w1) := (((Below.refl _ _).alloc (Nat.le_refl _) _).alloc (by simp) _).trans (hb.mono (by simp; omega))
  clear hf hb hz
  have cx := fun (x : Sub w1) => x.cell
  refine wp_region_sub (by kernel_rfl) (by kernel_rfl) ?_
  repeat (first | go_big_quiet_skip | (go_big_quiet_want; go_big_quiet_op; first | go_big_quiet_on | (refine ⟨_, fun _ => rfl, ?_⟩; go_big_quiet_on) | go_big_quiet_call (first | (go_at_call 113; exact calls_sub_same (isInteger_of _ _ false (by symm; simpa using I.out))))))
  refine wpQuiet_nil ?_
  rintro _ ⟨x, rfl⟩
  have HX : Hid (Below w.heap.size w x.w) := HB.out.trans (x.h.mono (by omega))
  unfold maxLen at hs
  go_wp2
  all_goals
    go_ret
    refine ⟨ret_int ?_, HX.out⟩
    first | rw [R.out] | (have e : k = 19 := (by assumption); rw [← e, R.out])
    first | rw [if_pos (by omega)] | rw [if_neg (by omega)]
set_option maxHeartbeats 1000000 in
theorem Fits_e (h0 : 0 ≤ b) (h1 : b < 18446744073709551616) (hk : 0 ≤ k ∧ k < 256) (hs : s.size ≤ maxLen) (c : may3 k b s = true) (i : 2 ≤ k ∧ k ≤ 9) (g1 : -9223372036854775808 ≤ lo ∧ lo < 9223372036854775808) (g2 : -9223372036854775808 ≤ hi ∧ hi < 9223372036854775808) (n : decide (lo ≤ num k b ∧ num k b ≤ hi) = true) :
    Calls Tryz.prog 103 #[T k true lo hi mx arr fr to bl, V k b s] w fun e w' => e = .returned (.int .i64 (fitsF k b s k true lo hi mx)) ∧ Below w.heap.size w w' := by
  have R : Hid (fitsF k b s k true lo hi mx = if k = 19 ∧ 1 ≤ mx ∧ mx < s.size then 5 else 0) := fitsF_c1 k b s true lo hi mx c (by simp only [true_and]; exact fun h => h.2 (by simpa using n))
  have I : Hid (2 ≤ k ∧ k ≤ 9) := i
  clear i
  go_enter Tryz.func103, Tryz.ntmps103
  go_wp2_with (first | (go_at_call 106; refine (May_of _ _ _ _ h0 h1 hk hs).mono ?_; rintro e w1 ⟨rfl, hb⟩; obtain ⟨hc, hf⟩ := bcell hb))
  have hz : w.heap.size + 2 ≤ w1.heap.size := by have := hb.size; simp at this; omega
  have z0 : w.heap.size < w1.heap.size := by omega
  have z1 : w.heap.size + 1 < w1.heap.size := by omega
  have HB : Hid (Below w.heap.size w w1) := (((Below.refl _ _).alloc (Nat.le_refl _) _).alloc (by simp) _).trans (hb.mono (by simp; omega))
  clear hf hb hz
  have cx := fun (x : Sub w1) => x.cell
  refine wp_region_sub (by kernel_rfl) (by kernel_rfl) ?_
  repeat (first | go_big_quiet_skip | (go_big_quiet_want; go_big_quiet_op; first | go_big_quiet_on | (refine ⟨_, fun _ => rfl, ?_⟩; go_big_quiet_on) | go_big_quiet_call (first | (go_at_call 113; exact calls_sub_same (isInteger_of _ _ true (by symm; simpa using I.out))) | (go_at_call 115; exact calls_sub (numberOf_of _ _ _ _ h0 h1)) | (go_at_call 114; exact calls_sub (within_of _ _ _ _ g1 g2)))))
  refine wpQuiet_nil ?_
  rintro _ ⟨x, rfl⟩
  have HX : Hid (Below w.heap.size w x.w) := HB.out.trans (x.h.mono (by omega))
  unfold maxLen at hs
  go_wp2
  all_goals
    go_ret
    refine ⟨ret_int ?_, HX.out⟩
    first | rw [R.out] | (have e : k = 19 := (by assumption); rw [← e, R.out])
    first | rw [if_pos (by omega)] | rw [if_neg (by omega)]
set_option maxHeartbeats 1000000 in
theorem Fits_f (h0 : 0 ≤ b) (h1 : b < 18446744073709551616) (hk : 0 ≤ k ∧ k < 256) (hs : s.size ≤ maxLen) (c : may3 k b s = true) (i : 2 ≤ k ∧ k ≤ 9) (g1 : -9223372036854775808 ≤ lo ∧ lo < 9223372036854775808) (g2 : -9223372036854775808 ≤ hi ∧ hi < 9223372036854775808) (n : decide (lo ≤ num k b ∧ num k b ≤ hi) = false) :
    Calls Tryz.prog 103 #[T k true lo hi mx arr fr to bl, V k b s] w fun e w' => e = .returned (.int .i64 (fitsF k b s k true lo hi mx)) ∧ Below w.heap.size w w' := by
  have R : Hid (3 = fitsF k b s k true lo hi mx) := (fitsF_c2 k b s lo hi mx c i (by simpa using n)).symm
  have I : Hid (2 ≤ k ∧ k ≤ 9) := i
  clear i
  go_enter Tryz.func103, Tryz.ntmps103
  go_wp2_with (first | (go_at_call 106; refine (May_of _ _ _ _ h0 h1 hk hs).mono ?_; rintro e w1 ⟨rfl, hb⟩; obtain ⟨hc, hf⟩ := bcell hb))
  have hz : w.heap.size + 2 ≤ w1.heap.size := by have := hb.size; simp at this; omega
  have z0 : w.heap.size < w1.heap.size := by omega
  have z1 : w.heap.size + 1 < w1.heap.size := by omega
  have HB : Hid (Below w.heap.size w w1) := (((Below.refl _ _).alloc (Nat.le_refl _) _).alloc (by simp) _).trans (hb.mono (by simp; omega))
  clear hf hb hz
  have cx := fun (x : Sub w1) => x.cell
  refine wp_region_sub (by kernel_rfl) (by kernel_rfl) ?_
  repeat (first | go_big_quiet_skip | (go_big_quiet_want; go_big_quiet_op; first | go_big_quiet_on | (refine ⟨_, fun _ => rfl, ?_⟩; go_big_quiet_on) | go_big_quiet_call (first | (go_at_call 113; exact calls_sub_same (isInteger_of _ _ true (by symm; simpa using I.out))) | (go_at_call 115; exact calls_sub (numberOf_of _ _ _ _ h0 h1)) | (go_at_call 114; exact calls_sub (within_of _ _ _ _ g1 g2)))))
  refine wpQuiet_nil ?_
  rintro _ ⟨x, rfl⟩
  have HX : Hid (Below w.heap.size w x.w) := HB.out.trans (x.h.mono (by omega))
  go_wp2
  go_ret
  exact ⟨ret_int R.out, HX.out⟩
theorem Fits_of (h0 : 0 ≤ b) (h1 : b < 18446744073709551616) (hk : 0 ≤ k ∧ k < 256) (hs : s.size ≤ maxLen) (g1 : -9223372036854775808 ≤ lo ∧ lo < 9223372036854775808) (g2 : -9223372036854775808 ≤ hi ∧ hi < 9223372036854775808) :
    Calls Tryz.prog 103 #[T tk sub lo hi mx arr fr to bl, V k b s] w fun e w' => e = .returned (.int .i64 (fitsF k b s tk sub lo hi mx)) ∧ Below w.heap.size w w' := by
  cases c : may3 k b s
  · exact Fits_a tk sub lo hi mx arr fr to bl k b s w h0 h1 hk hs c
  by_cases d : k = tk
  · subst d
    cases sub
    · exact Fits_c lo hi mx arr fr to bl k b s w h0 h1 hk hs c
    by_cases i : 2 ≤ k ∧ k ≤ 9
    · cases n : decide (lo ≤ num k b ∧ num k b ≤ hi)
      · exact Fits_f lo hi mx arr fr to bl k b s w h0 h1 hk hs c i g1 g2 n
      · exact Fits_e lo hi mx arr fr to bl k b s w h0 h1 hk hs c i g1 g2 n
    · exact Fits_d lo hi mx arr fr to bl k b s w h0 h1 hk hs c i
  · exact Fits_b tk sub lo hi mx arr fr to bl k b s w h0 h1 hk hs c (by simpa using d)
end
end Go.Proofs.YtpcjnhffpkpchaaGreat
