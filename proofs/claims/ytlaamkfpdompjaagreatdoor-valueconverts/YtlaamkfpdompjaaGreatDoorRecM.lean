/- What the operations on two numbers come to, plainly: sums, products, quotients, and where a machine's number has room; no statement of the seat is proved here. -/
import Derived.Test.YtlaamkfpdompjaaGreatDoorFitted
namespace Go.Proofs.YtlaamkfpdompjaaGreatDoor
set_option linter.unusedVariables false
open Go.RowKit
/-- Is a number one that an int has? -/
def in64 (n : Int) : Bool := decide (-9223372036854775808 ≤ n ∧ n < 9223372036854775808)
/-- The number that an operation on two numbers comes to. -/
def opI (op a b : Int) : Int := if op = 1 then a + b else if op = 2 then a - b else if op = 3 then a * b else if op = 4 then a.tdiv b else a.tmod b
theorem tdiv_near (p b : Int) (h : b ≠ 0) : (p - p.tdiv b * b).natAbs < b.natAbs := by
  have e : p - p.tdiv b * b = p.tmod b := by have := Int.tmod_add_mul_tdiv p b; rw [Int.mul_comm] at this; omega
  rw [e, Int.natAbs_tmod]
  exact Nat.mod_lt _ (by omega)
theorem tdiv_bd (a b : Int) : (a.tdiv b).natAbs ≤ a.natAbs := by
  rw [Int.natAbs_tdiv]; exact Nat.div_le_self _ _
theorem tmod_bd (a b : Int) : (a.tmod b).natAbs ≤ a.natAbs := by
  rw [Int.natAbs_tmod]; exact Nat.mod_le _ _
theorem mul_fine (a b : Int) (b0 : b ≠ 0) (h : in64 (a * b) = true) : wrap64 (a * b) = a * b ∧ (wrap64 (a * b)).tdiv b = a := by
  have e : wrap64 (a * b) = a * b := by simp [in64] at h; generalize a * b = p at *; unfold wrap64; omega
  rw [e]; exact ⟨rfl, Int.mul_tdiv_cancel _ b0⟩
theorem mul_special (a b : Int) (h : in64 (a * b) = true) : ¬ (a = -1 ∧ b = -9223372036854775808) ∧ ¬ (b = -1 ∧ a = -9223372036854775808) := by
  constructor
  · rintro ⟨rfl, rfl⟩; simp [in64] at h
  · rintro ⟨rfl, rfl⟩; simp [in64] at h
theorem mul_over (a b : Int) (b0 : b ≠ 0) (hb : -9223372036854775808 ≤ b ∧ b < 9223372036854775808) (h : in64 (a * b) = false) : (wrap64 (a * b)).tdiv b ≠ a := by
  intro e
  have n := tdiv_near (wrap64 (a * b)) b b0
  rw [e] at n
  simp [in64] at h
  generalize a * b = p at *
  have : ∃ q, wrap64 p = p - 18446744073709551616 * q := ⟨(p + 9223372036854775808) / 18446744073709551616, by unfold wrap64; omega⟩
  obtain ⟨q, hq⟩ := this
  have hw : -9223372036854775808 ≤ wrap64 p ∧ wrap64 p < 9223372036854775808 := by unfold wrap64; omega
  rw [hq] at n hw
  omega
/-- A quotient that an int has not: only the least number's by -1. -/
theorem tdiv_in (a b : Int) (ha : -9223372036854775808 ≤ a ∧ a < 9223372036854775808) (b0 : b ≠ 0) (b1 : b ≠ -1) : -9223372036854775808 ≤ a.tdiv b ∧ a.tdiv b < 9223372036854775808 := by
  by_cases h1 : b = 1
  · subst h1; simpa using ha
  have h : (a.tdiv b).natAbs = a.natAbs / b.natAbs := Int.natAbs_tdiv a b
  have h2 : a.natAbs / b.natAbs ≤ a.natAbs / 2 := Nat.div_le_div_left (by omega) (by omega)
  generalize a.natAbs / b.natAbs = q at *
  generalize a.tdiv b = t at *
  omega
theorem tmod_in (a b : Int) (ha : -9223372036854775808 ≤ a ∧ a < 9223372036854775808) (b0 : b ≠ 0) : -9223372036854775808 ≤ a.tmod b ∧ a.tmod b < 9223372036854775808 := by
  have h := tmod_bd a b
  by_cases c : 0 ≤ a
  · have := Int.tmod_nonneg b c; omega
  · have e : a.tmod b = -((-a).tmod b) := by rw [Int.neg_tmod]; omega
    have := Int.tmod_nonneg b (show 0 ≤ -a by omega)
    omega
theorem tdiv_m1 (a : Int) : a.tdiv (-1) = -a := by simp
theorem tmod_m1 (a : Int) : a.tmod (-1) = 0 := by simp
/-- Without signs. -/
def inU (n : Int) : Bool := decide (0 ≤ n ∧ n < 18446744073709551616)
theorem umul_over (a b : Int) (a0 : 0 ≤ a) (b0 : 0 < b) (hb : b < 18446744073709551616) (h : inU (a * b) = false) : (a * b) % 18446744073709551616 / b ≠ a := by
  intro e
  have hp : 0 ≤ a * b := Int.mul_nonneg a0 (by omega)
  have h2 := Int.emod_add_mul_ediv ((a * b) % 18446744073709551616) b
  have h3 := Int.emod_lt_of_pos ((a * b) % 18446744073709551616) b0
  have h4 := Int.emod_nonneg ((a * b) % 18446744073709551616) (b := b) (by omega)
  rw [e, Int.mul_comm b a] at h2
  simp [inU] at h
  generalize a * b = p at *
  generalize p % 18446744073709551616 % b = r at *
  omega
theorem umul_fine (a b : Int) (b0 : 0 < b) (h : inU (a * b) = true) : (a * b) % 18446744073709551616 = a * b ∧ (a * b) % 18446744073709551616 / b = a := by
  have e : (a * b) % 18446744073709551616 = a * b := by simp [inU] at h; generalize a * b = p at *; omega
  rw [e]; exact ⟨rfl, Int.mul_ediv_cancel _ (by omega)⟩

/-- Is there room for a number's size? -/
def room (n : Int) : Bool := decide (-18446744073709551616 < n ∧ n < 18446744073709551616)
theorem num_lo (k b : Int) (h0 : 0 ≤ b) (h1 : b < 18446744073709551616) : -9223372036854775808 ≤ num k b ∧ num k b < 18446744073709551616 := num_bd k b h0 h1
theorem fit_out (k n : Int) (h : room n = false) : fitOk k n = false := by
  have b := num_bd k (n % 18446744073709551616) (by omega) (by omega)
  simp [room] at h
  unfold fitOk
  have : decide (num k (n % 18446744073709551616) = n) = false := by simp; omega
  rw [this]; simp
theorem mE (k b : Int) (h : ¬ k = 19) : may3 k b E0 = mayW k b := by
  have e : E0.toList = [] := (toList_nil_iff_emptyBytes E0).2 rfl
  simp [may3, h, e]
/-- Kinds whose numbers are told with a sign. -/
def sK (k : Int) : Prop := 2 ≤ k ∧ k ≤ 5 ∨ 14 ≤ k ∧ k ≤ 17
theorem mw_hi (k b : Int) (hk : 15 ≤ k ∧ k ≤ 17) (h : 9223372036854775808 ≤ b) : mayW k b = false := by
  have : k = 15 ∨ k = 16 ∨ k = 17 := by omega
  rcases this with rfl | rfl | rfl
  · exact mw15f b (by omega)
  · rw [mw16]; simp; omega
  · rw [mw17]; simp; omega
theorem fit_in (k n : Int) (hk : sK k) (h : in64 n = true) : fitOk k n = mayW k (n % 18446744073709551616) := by
  simp [in64] at h
  unfold fitOk
  have hn : ¬ k = 19 := by unfold sK at hk; omega
  rw [mE k _ hn]
  by_cases d : 2 ≤ k ∧ k ≤ 5 ∨ k = 14
  · have e : num k (n % 18446744073709551616) = n := by rw [num_s d]; unfold wrap64; omega
    rw [e]; simp
  · rw [num_u d]
    by_cases c : 0 ≤ n
    · have e : n % 18446744073709551616 = n := by omega
      rw [e]; simp
    · rw [mw_hi k _ (by unfold sK at hk; omega) (by omega)]; simp
theorem fit_over (k n : Int) (hk : sK k) (h : in64 n = false) : fitOk k n = false := by
  cases r : room n
  · exact fit_out k n r
  simp [in64] at h
  simp [room] at r
  unfold fitOk
  have hn : ¬ k = 19 := by unfold sK at hk; omega
  rw [mE k _ hn]
  by_cases d : 2 ≤ k ∧ k ≤ 5 ∨ k = 14
  · have e : ¬ num k (n % 18446744073709551616) = n := by rw [num_s d]; unfold wrap64; omega
    simp [e]
  · rw [num_u d]
    by_cases c : 0 ≤ n
    · rw [mw_hi k _ (by unfold sK at hk; omega) (by omega)]; simp
    · have e : ¬ n % 18446744073709551616 = n := by omega
      simp [e]
theorem fit_u (k n : Int) (hk : 6 ≤ k ∧ k ≤ 9) (h : inU n = true) : fitOk k n = mayW k n := by
  simp [inU] at h
  unfold fitOk
  rw [mE k _ (by omega), num_u (by omega)]
  have e : n % 18446744073709551616 = n := by omega
  rw [e]; simp
theorem fit_uover (k n : Int) (hk : 6 ≤ k ∧ k ≤ 9) (h : inU n = false) : fitOk k n = false := by
  simp [inU] at h
  unfold fitOk
  rw [mE k _ (by omega), num_u (by omega)]
  have e : ¬ n % 18446744073709551616 = n := by omega
  simp [e]
end Go.Proofs.YtlaamkfpdompjaaGreatDoor
