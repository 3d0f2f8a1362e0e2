/- The plain functions that say what the value package's numbers, kinds and floats are, and small facts about them; no statement of the seat is proved here. -/
import Derived.Test.YtpcjnhffpkpchaaGreatRows
import Derived.WalkKit
import Derived.WalkSpells
import Derived.WalkLawsBesides
namespace Go.Proofs.YtpcjnhffpkpchaaGreat
set_option linter.unusedVariables false
open Go.RowKit
theorem ret_bool {a b : Bool} (h : a = b) : Ending.returned (.bool a) = .returned (.bool b) := by rw [h]
theorem ret_int {k : IntKind} {a b : Int} (h : a = b) : Ending.returned (.int k a) = .returned (.int k b) := by rw [h]
/-- Are these bits of a float64 no number? -/
def fnan (n : Nat) : Bool := decide (9218868437227405312 < n % 9223372036854775808)
/-- What the bits of a float64 are, by their rung. -/
theorem read_cases (n : Nat) : (∃ m p, FloatKind.f64.format.read n = .number (n / 9223372036854775808 % 2 == 1) m p ∧ n % 9223372036854775808 < 9218868437227405312) ∨
    (FloatKind.f64.format.read n = .infinity (n / 9223372036854775808 % 2 == 1) ∧ n % 9223372036854775808 = 9218868437227405312) ∨
    (∃ f, FloatKind.f64.format.read n = .nan (n / 9223372036854775808 % 2 == 1) f ∧ 9218868437227405312 < n % 9223372036854775808) := by
  have e : FloatKind.f64.format.read n = (if n % 9223372036854775808 < 4503599627370496 then
        Ieee.Datum.number (n / 9223372036854775808 % 2 == 1) (n % 9223372036854775808) (Ieee.Format.leastPlace Ieee.double)
      else if n % 9223372036854775808 < 9218868437227405312 then
          Ieee.Datum.number (n / 9223372036854775808 % 2 == 1) (4503599627370496 + n % 9223372036854775808 % 4503599627370496)
            (Ieee.Format.leastPlace Ieee.double + ↑(n % 9223372036854775808 / 4503599627370496 - 1))
        else
          if n % 9223372036854775808 = 9218868437227405312 then Ieee.Datum.infinity (n / 9223372036854775808 % 2 == 1)
          else Ieee.Datum.nan (n / 9223372036854775808 % 2 == 1) (n % 9223372036854775808 - 9218868437227405312)) := rfl
  rw [e]
  by_cases h1 : n % 9223372036854775808 < 4503599627370496
  · rw [if_pos h1]; exact .inl ⟨_, _, rfl, by omega⟩
  rw [if_neg h1]
  by_cases h2 : n % 9223372036854775808 < 9218868437227405312
  · rw [if_pos h2]; exact .inl ⟨_, _, rfl, h2⟩
  rw [if_neg h2]
  by_cases h3 : n % 9223372036854775808 = 9218868437227405312
  · rw [if_pos h3]; exact .inr (.inl ⟨rfl, h3⟩)
  rw [if_neg h3]
  exact .inr (.inr ⟨_, rfl, by omega⟩)
theorem compare_self_int (a : Int) : compare a a = .eq := by simp [compare, compareOfLessAndEq]
theorem compare_self_nat (a : Nat) : compare a a = .eq := by simp
theorem order_self (n : Nat) : (FloatKind.f64.format.order n n == some .eq) = !fnan n := by
  unfold Ieee.Format.order fnan
  rcases read_cases n with ⟨m, p, h, g⟩ | ⟨h, g⟩ | ⟨f, h, g⟩
  · rw [h]; simp [Ieee.Datum.order]; omega
  · rw [h]; simp [Ieee.Datum.order]; omega
  · rw [h]; simp [Ieee.Datum.order]; omega
theorem order_self_ne (n : Nat) : (FloatKind.f64.format.order n n != some .eq) = fnan n := by
  rw [bne, order_self]; simp
/-- A signed kind's bits of that half width may be. -/
def sg (h b : Int) : Bool := decide (b < h ∨ 18446744073709551616 - h ≤ b)
/-- May a kind without a text have such bits? -/
def mayW (k b : Int) : Bool :=
  if k = 1 then decide (b ≤ 1) else if k = 2 then sg 128 b else if k = 3 then sg 32768 b else if k = 4 then sg 2147483648 b
  else if k = 5 ∨ k = 9 ∨ k = 13 ∨ k = 14 then true
  else if k = 6 ∨ k = 10 then decide (b < 256) else if k = 7 ∨ k = 11 then decide (b < 65536) else if k = 8 ∨ k = 12 then decide (b < 4294967296)
  else if k = 15 then decide (b < 7258118400000000000 ∧ b % 86400000000000 = 0) else if k = 16 then decide (b < 86400000000000)
  else if k = 17 then decide (b < 7258118400000000000) else if k = 18 then decide (b = 9221120237041090561 ∨ fnan b.toNat = false) else false
/-- The kinds, one by one. -/
theorem kinds (k : Int) (hk : 0 ≤ k ∧ k < 256) : k = 1 ∨ k = 2 ∨ k = 3 ∨ k = 4 ∨ k = 5 ∨ k = 6 ∨ k = 7 ∨ k = 8 ∨ k = 9 ∨ k = 10 ∨ k = 11 ∨ k = 12 ∨ k = 13 ∨ k = 14 ∨ k = 15 ∨ k = 16 ∨ k = 17 ∨ k = 18 ∨ k = 19 ∨ k = 0 ∨ 19 < k := by omega
theorem fw_sg (h b : Int) (h0 : 0 ≤ b) (h1 : b < 18446744073709551616) (g0 : 0 < h) (g1 : h ≤ 9223372036854775808) : (wrap64 b / h == 0 || wrap64 b / h == -1) = sg h b := by
  rw [Bool.eq_iff_iff]
  have e1 : wrap64 b / h = 0 ↔ 0 ≤ wrap64 b ∧ wrap64 b < h := by
    constructor
    · intro e
      have := Int.emod_nonneg (wrap64 b) (b := h) (by omega)
      have := Int.emod_lt_of_pos (wrap64 b) g0
      have := Int.emod_add_mul_ediv (wrap64 b) h
      rw [e] at this; omega
    · rintro ⟨a, c⟩; exact Int.ediv_eq_zero_of_lt a c
  have e2 : wrap64 b / h = -1 ↔ -h ≤ wrap64 b ∧ wrap64 b < 0 := by
    constructor
    · intro e
      have := Int.emod_nonneg (wrap64 b) (b := h) (by omega)
      have := Int.emod_lt_of_pos (wrap64 b) g0
      have := Int.emod_add_mul_ediv (wrap64 b) h
      rw [e] at this; omega
    · rintro ⟨a, c⟩
      have := Int.add_mul_ediv_right (wrap64 b) 1 (c := h) (by omega)
      have : (wrap64 b + 1 * h) / h = 0 := Int.ediv_eq_zero_of_lt (by omega) (by omega)
      omega
  simp only [Bool.or_eq_true, beq_iff_eq, e1, e2, sg, decide_eq_true_eq]
  unfold wrap64
  omega
theorem and_high (n : Nat) : n &&& 9218868437227405312 = n / 4503599627370496 % 2048 * 4503599627370496 := by
  have e : (9218868437227405312 : Nat) = 2047 <<< 52 := by decide
  have h : n &&& (2047 <<< 52) = ((n >>> 52) &&& 2047) <<< 52 := by
    apply Nat.eq_of_testBit_eq
    intro i
    simp only [Nat.testBit_and, Nat.testBit_shiftLeft, Nat.testBit_shiftRight]
    by_cases c : 52 ≤ i
    · simp [c]
    · simp [c]
  rw [e, h, Nat.shiftLeft_eq, Nat.shiftRight_eq_div_pow, show (2047 : Nat) = 2 ^ 11 - 1 from rfl, Nat.and_two_pow_sub_one_eq_mod]
theorem and_low (n : Nat) : n &&& 4503599627370495 = n % 4503599627370496 := Nat.and_two_pow_sub_one_eq_mod n 52
theorem bits_high (b : Int) (h0 : 0 ≤ b) (h1 : b < 18446744073709551616) : bits .and .u64 b 9218868437227405312 = ((b.toNat / 4503599627370496 % 2048 * 4503599627370496 : Nat) : Int) := by
  rw [u64_and b _ h0 h1 (by omega) (by omega)]
  exact congrArg _ (and_high b.toNat)
theorem bits_low (b : Int) (h0 : 0 ≤ b) (h1 : b < 18446744073709551616) : bits .and .u64 b 4503599627370495 = ((b.toNat % 4503599627370496 : Nat) : Int) := by
  rw [u64_and b _ h0 h1 (by omega) (by omega)]
  exact congrArg _ (and_low b.toNat)
theorem fnan_hi (b : Int) (h0 : 0 ≤ b) (h1 : b < 18446744073709551616) (c : bits .and .u64 b 9218868437227405312 = 9218868437227405312) : fnan b.toNat = (bits .and .u64 b 4503599627370495 != 0) := by
  rw [bits_high b h0 h1] at c
  rw [bits_low b h0 h1, Bool.eq_iff_iff]
  simp only [fnan, decide_eq_true_eq, bne_iff_ne, ne_eq]
  generalize b.toNat = n at *
  omega
theorem fnan_lo (b : Int) (h0 : 0 ≤ b) (h1 : b < 18446744073709551616) (c : ¬ bits .and .u64 b 9218868437227405312 = 9218868437227405312) : fnan b.toNat = false := by
  rw [bits_high b h0 h1] at c
  simp only [fnan, decide_eq_false_iff_not]
  generalize b.toNat = n at *
  omega
end Go.Proofs.YtpcjnhffpkpchaaGreat
