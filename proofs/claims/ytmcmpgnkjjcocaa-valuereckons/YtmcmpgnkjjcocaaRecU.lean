/- What the document's unsigned operations answer; no statement of the seat is proved here. -/
import Derived.Test.YtmcmpgnkjjcocaaRecM
import Derived.Handy
import Derived.Deep.Light
namespace Go.Proofs.Ytmcmpgnkjjcocaa
set_option linter.unusedVariables false
open Go.RowKit
section
variable (a b : Int) (w : World)
set_option maxRecDepth 100000 in
set_option maxHeartbeats 1000000 in
theorem us_add_fine (ha1 : 0 ≤ a) (ha2 : a < 18446744073709551616) (hb1 : 0 ≤ b) (hb2 : b < 18446744073709551616) (h : a + b < 18446744073709551616) :
    Calls Try.prog 23 #[.int .i64 1, .int .u64 a, .int .u64 b] w fun e w' => e = .returned (.tuple #[.int .u64 (a + b), .int .i64 0]) ∧ w' = w := by
  go_enter Try.func23, Try.ntmps23
  go_wp2
  go_ret2
  exact ⟨rfl, rfl⟩
set_option maxRecDepth 100000 in
set_option maxHeartbeats 1000000 in
theorem us_add_over (ha1 : 0 ≤ a) (ha2 : a < 18446744073709551616) (hb1 : 0 ≤ b) (hb2 : b < 18446744073709551616) (h : ¬ a + b < 18446744073709551616) :
    Calls Try.prog 23 #[.int .i64 1, .int .u64 a, .int .u64 b] w fun e w' => e = .returned (.tuple #[.int .u64 0, .int .i64 1]) ∧ w' = w := by
  have s0 : IntKind.u64.wrap (a + b) < a := by rw [IntKind.wrap_u64]; omega
  clear h
  go_enter Try.func23, Try.ntmps23
  go_wp2
  go_ret2
  exact ⟨rfl, rfl⟩
set_option maxRecDepth 100000 in
set_option maxHeartbeats 1000000 in
theorem us_sub_fine (ha1 : 0 ≤ a) (ha2 : a < 18446744073709551616) (hb1 : 0 ≤ b) (hb2 : b < 18446744073709551616) (h : b ≤ a) :
    Calls Try.prog 23 #[.int .i64 2, .int .u64 a, .int .u64 b] w fun e w' => e = .returned (.tuple #[.int .u64 (a - b), .int .i64 0]) ∧ w' = w := by
  go_enter Try.func23, Try.ntmps23
  go_wp2
  go_ret2
  exact ⟨rfl, rfl⟩
set_option maxRecDepth 100000 in
set_option maxHeartbeats 1000000 in
theorem us_sub_over (ha1 : 0 ≤ a) (ha2 : a < 18446744073709551616) (hb1 : 0 ≤ b) (hb2 : b < 18446744073709551616) (h : a < b) :
    Calls Try.prog 23 #[.int .i64 2, .int .u64 a, .int .u64 b] w fun e w' => e = .returned (.tuple #[.int .u64 0, .int .i64 1]) ∧ w' = w := by
  go_enter Try.func23, Try.ntmps23
  go_wp2
  go_ret2
  exact ⟨rfl, rfl⟩
set_option maxRecDepth 100000 in
set_option maxHeartbeats 1000000 in
theorem us_mul_zero (h : a = 0 ∨ b = 0) :
    Calls Try.prog 23 #[.int .i64 3, .int .u64 a, .int .u64 b] w fun e w' => e = .returned (.tuple #[.int .u64 0, .int .i64 0]) ∧ w' = w := by
  rcases h with rfl | rfl
  · go_enter Try.func23, Try.ntmps23
    go_wp2
    go_ret2
    exact ⟨rfl, rfl⟩
  · cases c : (a == 0)
    all_goals
      go_enter Try.func23, Try.ntmps23
      go_wp2
      go_ret2
      exact ⟨rfl, rfl⟩
set_option maxRecDepth 100000 in
set_option maxHeartbeats 1000000 in
theorem us_mul_fine (ha1 : 0 ≤ a) (ha2 : a < 18446744073709551616) (hb1 : 0 < b) (hb2 : b < 18446744073709551616) (a0 : (a == 0) = false) (b0 : (b == 0) = false) (c5 : (IntKind.u64.wrap (a * b) / b != a) = false) :
    Calls Try.prog 23 #[.int .i64 3, .int .u64 a, .int .u64 b] w fun e w' => e = .returned (.tuple #[.int .u64 (IntKind.u64.wrap (a * b)), .int .i64 0]) ∧ w' = w := by
  have b1 : ¬ b = 0 := by omega
  have c6 : (IntKind.u64.wrap ((IntKind.u64.wrap (a * b)).tdiv b) != a) = false := by
    have : (IntKind.u64.wrap (a * b)).tdiv b = IntKind.u64.wrap (a * b) / b := Int.tdiv_eq_ediv_of_nonneg (by rw [IntKind.wrap_u64]; omega)
    rw [this]
    have e : IntKind.u64.wrap (a * b) / b = a := by simpa using c5
    rw [e, IntKind.wrap_u64]; simp; omega
  go_enter Try.func23, Try.ntmps23
  go_wp2
  go_ret2
  exact ⟨rfl, rfl⟩
set_option maxRecDepth 100000 in
set_option maxHeartbeats 1000000 in
theorem us_mul_over (ha1 : 0 ≤ a) (ha2 : a < 18446744073709551616) (hb1 : 0 < b) (hb2 : b < 18446744073709551616) (a0 : (a == 0) = false) (b0 : (b == 0) = false) (c5 : (IntKind.u64.wrap (a * b) / b != a) = true) :
    Calls Try.prog 23 #[.int .i64 3, .int .u64 a, .int .u64 b] w fun e w' => e = .returned (.tuple #[.int .u64 0, .int .i64 1]) ∧ w' = w := by
  have b1 : ¬ b = 0 := by omega
  have c6 : (IntKind.u64.wrap ((IntKind.u64.wrap (a * b)).tdiv b) != a) = true := by
    have : (IntKind.u64.wrap (a * b)).tdiv b = IntKind.u64.wrap (a * b) / b := Int.tdiv_eq_ediv_of_nonneg (by rw [IntKind.wrap_u64]; omega)
    rw [this]
    have hw : 0 ≤ IntKind.u64.wrap (a * b) ∧ IntKind.u64.wrap (a * b) < 18446744073709551616 := by rw [IntKind.wrap_u64]; omega
    have e : ¬ IntKind.u64.wrap (a * b) / b = a := by simpa using c5
    have h1 : 0 ≤ IntKind.u64.wrap (a * b) / b := Int.ediv_nonneg hw.1 (by omega)
    have h2 : IntKind.u64.wrap (a * b) / b ≤ IntKind.u64.wrap (a * b) := Int.ediv_le_self _ hw.1
    generalize IntKind.u64.wrap (a * b) / b = q at *
    rw [IntKind.wrap_u64]; simp; omega
  go_enter Try.func23, Try.ntmps23
  go_wp2
  go_ret2
  exact ⟨rfl, rfl⟩
set_option maxRecDepth 100000 in
set_option maxHeartbeats 1000000 in
theorem us_zero (op : Int) (o : op = 4 ∨ op = 5) :
    Calls Try.prog 23 #[.int .i64 op, .int .u64 a, .int .u64 0] w fun e w' => e = .returned (.tuple #[.int .u64 0, .int .i64 2]) ∧ w' = w := by
  rcases o with rfl | rfl
  all_goals
    go_enter Try.func23, Try.ntmps23
    go_wp2
    go_ret2
    exact ⟨rfl, rfl⟩
set_option maxRecDepth 100000 in
set_option maxHeartbeats 1000000 in
theorem us_div (ha1 : 0 ≤ a) (ha2 : a < 18446744073709551616) (hb1 : 0 < b) (hb2 : b < 18446744073709551616) :
    Calls Try.prog 23 #[.int .i64 4, .int .u64 a, .int .u64 b] w fun e w' => e = .returned (.tuple #[.int .u64 (a.tdiv b), .int .i64 0]) ∧ w' = w := by
  have b0 : (b == 0) = false := by simp; omega
  have b2 : ¬ b = 0 := by omega
  have E : Hid (a.tdiv b = a / b) := Int.tdiv_eq_ediv_of_nonneg ha1
  have D : Hid (IntKind.u64.wrap (a.tdiv b) = a.tdiv b) := by
    show _ = _
    rw [E.out]
    have h1 : 0 ≤ a / b := Int.ediv_nonneg ha1 (by omega)
    have h2 : a / b ≤ a := Int.ediv_le_self _ ha1
    generalize a / b = q at *
    rw [IntKind.wrap_u64]; omega
  go_enter Try.func23, Try.ntmps23
  go_wp2
  go_ret2
  exact ⟨by first | rfl | (rw [D.out]; rfl) | (rw [E.out]; rfl), rfl⟩
set_option maxRecDepth 100000 in
set_option maxHeartbeats 1000000 in
theorem us_mod (ha1 : 0 ≤ a) (ha2 : a < 18446744073709551616) (hb1 : 0 < b) (hb2 : b < 18446744073709551616) :
    Calls Try.prog 23 #[.int .i64 5, .int .u64 a, .int .u64 b] w fun e w' => e = .returned (.tuple #[.int .u64 (a.tmod b), .int .i64 0]) ∧ w' = w := by
  have b0 : (b == 0) = false := by simp; omega
  have b2 : ¬ b = 0 := by omega
  have E : Hid (a.tmod b = a % b) := Int.tmod_eq_emod_of_nonneg ha1
  have D : Hid (IntKind.u64.wrap (a.tmod b) = a.tmod b) := by
    show _ = _
    rw [E.out]
    have h1 : 0 ≤ a % b := Int.emod_nonneg _ (by omega)
    have h2 : a % b < b := Int.emod_lt_of_pos _ hb1
    generalize a % b = q at *
    rw [IntKind.wrap_u64]; omega
  go_enter Try.func23, Try.ntmps23
  go_wp2
  go_ret2
  exact ⟨by first | rfl | (rw [D.out]; rfl) | (rw [E.out]; rfl), rfl⟩
end
/-- What the document's unsigned operation answers. -/
def usR (op a b : Int) : Value :=
  if (op = 4 ∨ op = 5) ∧ b = 0 then .tuple #[.int .u64 0, .int .i64 2] else if inU (opI op a b) then .tuple #[.int .u64 (opI op a b), .int .i64 0] else .tuple #[.int .u64 0, .int .i64 1]
theorem inU_t {n : Int} (h : 0 ≤ n ∧ n < 18446744073709551616) : inU n = true := by simpa [inU] using h
theorem inU_f {n : Int} (h : ¬ (0 ≤ n ∧ n < 18446744073709551616)) : inU n = false := by simpa [inU] using h
theorem unsignedS_of (op a b : Int) (w : World) (ho : 1 ≤ op ∧ op ≤ 5) (ha1 : 0 ≤ a) (ha2 : a < 18446744073709551616) (hb1 : 0 ≤ b) (hb2 : b < 18446744073709551616) :
    Calls Try.prog 23 #[.int .i64 op, .int .u64 a, .int .u64 b] w fun e w' => e = .returned (usR op a b) ∧ w' = w := by
  have : op = 1 ∨ op = 2 ∨ op = 3 ∨ op = 4 ∨ op = 5 := by omega
  unfold usR
  rcases this with rfl | rfl | rfl | rfl | rfl
  · rw [if_neg (by omega), show opI 1 a b = a + b from rfl]
    by_cases h : a + b < 18446744073709551616
    · rw [inU_t ⟨by omega, h⟩, if_pos rfl]; exact us_add_fine a b w ha1 ha2 hb1 hb2 h
    · rw [inU_f (by omega), if_neg (by simp)]; exact us_add_over a b w ha1 ha2 hb1 hb2 h
  · rw [if_neg (by omega), show opI 2 a b = a - b from rfl]
    by_cases h : b ≤ a
    · rw [inU_t (by omega), if_pos rfl]; exact us_sub_fine a b w ha1 ha2 hb1 hb2 h
    · rw [inU_f (by omega), if_neg (by simp)]; exact us_sub_over a b w ha1 ha2 hb1 hb2 (by omega)
  · rw [if_neg (by omega), show opI 3 a b = a * b from rfl]
    by_cases z : a = 0 ∨ b = 0
    · have e : a * b = 0 := by rcases z with rfl | rfl <;> simp
      rw [e, if_pos (by decide)]
      exact us_mul_zero a b w z
    have a0 : ¬ a = 0 := fun h => z (.inl h)
    have b0 : ¬ b = 0 := fun h => z (.inr h)
    cases h : inU (a * b)
    · rw [if_neg (by simp)]
      have o := umul_over a b ha1 (by omega) hb2 h
      exact us_mul_over a b w ha1 ha2 (by omega) hb2 (by simpa using a0) (by simpa using b0) (by rw [IntKind.wrap_u64]; simpa using o)
    · rw [if_pos rfl]
      obtain ⟨e1, e2⟩ := umul_fine a b (by omega) h
      have := us_mul_fine a b w ha1 ha2 (by omega) hb2 (by simpa using a0) (by simpa using b0) (by rw [IntKind.wrap_u64, e2]; simp)
      rwa [IntKind.wrap_u64, e1] at this
  · by_cases z : b = 0
    · subst z; rw [if_pos (by omega)]; exact us_zero a w 4 (.inl rfl)
    rw [if_neg (by omega), show opI 4 a b = a.tdiv b from rfl]
    have h1 : 0 ≤ a / b := Int.ediv_nonneg ha1 (by omega)
    have h2 : a / b ≤ a := Int.ediv_le_self _ ha1
    have e : a.tdiv b = a / b := Int.tdiv_eq_ediv_of_nonneg ha1
    rw [inU_t (by omega), if_pos rfl]
    exact us_div a b w ha1 ha2 (by omega) hb2
  · by_cases z : b = 0
    · subst z; rw [if_pos (by omega)]; exact us_zero a w 5 (.inr rfl)
    rw [if_neg (by omega), show opI 5 a b = a.tmod b from rfl]
    have h1 : 0 ≤ a % b := Int.emod_nonneg _ (by omega)
    have h2 : a % b < b := Int.emod_lt_of_pos _ (by omega)
    have e : a.tmod b = a % b := Int.tmod_eq_emod_of_nonneg ha1
    rw [inU_t (by omega), if_pos rfl]
    exact us_mod a b w ha1 ha2 (by omega) hb2
end Go.Proofs.Ytmcmpgnkjjcocaa
