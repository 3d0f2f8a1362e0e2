/- Floats and whole numbers: what a float rounds to, and that the result is exact: no program; no statement of the seat is proved here. -/
import Derived.Test.YtlaamkfpdompjaaGreatDoorBase
namespace Go.Proofs.YtlaamkfpdompjaaGreatDoor
set_option linter.unusedVariables false
/-- A number cut by s binary digits, to the nearest, of two as near the even one. -/
def rhe (m s : Nat) : Nat := m / 2 ^ s + (if 2 ^ s < 2 * (m % 2 ^ s) ∨ 2 ^ s = 2 * (m % 2 ^ s) ∧ m / 2 ^ s % 2 = 1 then 1 else 0)
/-- The whole number nearest to a float (its size). -/
def whN (b : Nat) : Nat :=
  if b / 4503599627370496 % 2048 = 0 then 0
  else if 1075 ≤ b / 4503599627370496 % 2048 then (4503599627370496 + b % 4503599627370496) * 2 ^ (b / 4503599627370496 % 2048 - 1075)
  else if 54 < 1075 - b / 4503599627370496 % 2048 then 0
  else rhe (4503599627370496 + b % 4503599627370496) (1075 - b / 4503599627370496 % 2048)
theorem cut_0 (s : Bool) (n : Nat) (way : Ieee.Toward) : way.cut s n 0 = n := by
  unfold Ieee.Toward.cut
  cases way <;> simp [Nat.mod_one]
theorem cut_evn (s : Bool) (n d : Nat) (h : d ≤ n.log2 + 2) : Ieee.Toward.even.cut s n d = rhe n d := by
  unfold Ieee.Toward.cut rhe
  simp only [Nat.min_eq_left h, Nat.one_shiftLeft]
  congr 1
  by_cases c1 : 2 ^ d < 2 * (n % 2 ^ d)
  · simp [c1]
  · by_cases c2 : 2 ^ d = 2 * (n % 2 ^ d) ∧ n / 2 ^ d % 2 = 1
    · rw [if_pos (Or.inr c2)]
      simp [c2.2, ← c2.1]
    · rw [if_neg (by intro h; rcases h with h | h; exact c1 h; exact c2 h)]
      have : (decide (2 ^ d < 2 * (n % 2 ^ d)) || (2 ^ d == 2 * (n % 2 ^ d) && n / 2 ^ d % 2 == 1)) = false := by
        rw [Bool.or_eq_false_iff]
        refine ⟨by simpa using c1, ?_⟩
        rw [Bool.eq_false_iff]
        intro q
        simp at q
        exact c2 q
      rw [this]
      rfl
theorem cut_far (s : Bool) (n d : Nat) (h : n.log2 + 2 < d) : Ieee.Toward.even.cut s n d = 0 := by
  unfold Ieee.Toward.cut
  have hl : n < 2 ^ (n.log2 + 1) := Nat.lt_log2_self
  have e : 2 ^ (n.log2 + 2) = 2 * 2 ^ (n.log2 + 1) := by rw [Nat.pow_succ]; omega
  simp only [Nat.min_eq_right (Nat.le_of_lt h), Nat.one_shiftLeft]
  have h2 : n < 2 ^ (n.log2 + 2) := by omega
  rw [Nat.div_eq_of_lt h2, Nat.mod_eq_of_lt h2]
  simp
  omega
theorem log2_norm (m : Nat) (h0 : 4503599627370496 ≤ m) (h1 : m < 9007199254740992) : m.log2 = 52 := by
  have a : m.log2 < 53 := (Nat.log2_lt (by omega)).2 (by simpa using h1)
  have b : 52 ≤ m.log2 := (Nat.le_log2 (by omega)).2 (by simpa using h0)
  omega
theorem read_sub (b : Nat) (h : b % 9223372036854775808 < 4503599627370496) : Ieee.double.read b = .number (b / 9223372036854775808 % 2 == 1) (b % 9223372036854775808) (-1074) := by
  unfold Ieee.Format.read
  have e1 : Ieee.double.signWeight = 9223372036854775808 := by decide
  have e2 : Ieee.double.binade = 4503599627370496 := by decide
  have e3 : Ieee.double.leastPlace = -1074 := by decide
  simp only [e1, e2, e3]
  rw [if_pos h]
theorem read_norm (b : Nat) (h0 : 4503599627370496 ≤ b % 9223372036854775808) (h1 : b % 9223372036854775808 < 9218868437227405312) :
    Ieee.double.read b = .number (b / 9223372036854775808 % 2 == 1) (4503599627370496 + b % 9223372036854775808 % 4503599627370496) (-1074 + ((b % 9223372036854775808 / 4503599627370496 - 1 : Nat) : Int)) := by
  unfold Ieee.Format.read
  have e1 : Ieee.double.signWeight = 9223372036854775808 := by decide
  have e2 : Ieee.double.binade = 4503599627370496 := by decide
  have e3 : Ieee.double.leastPlace = -1074 := by decide
  have e4 : Ieee.double.infRung = 9218868437227405312 := by decide
  simp only [e1, e2, e3, e4]
  rw [if_neg (by omega), if_pos h1]
/-- A finite float made whole is its number. -/
theorem integral_is (b : Nat) (h : ¬ b / 4503599627370496 % 2048 = 2047) : (Ieee.double.read b).integral .even = .number (b / 9223372036854775808 % 2 == 1) (whN b) 0 := by
  by_cases s : b % 9223372036854775808 < 4503599627370496
  · rw [read_sub b s]
    unfold whN
    rw [if_pos (by omega)]
    show Ieee.Datum.number _ _ _ = _
    have hm := cut_far (b / 9223372036854775808 % 2 == 1) (b % 9223372036854775808) 1074 (by
      have : (b % 9223372036854775808).log2 < 53 := by
        by_cases z : b % 9223372036854775808 = 0
        · rw [z]; decide
        · exact (Nat.log2_lt z).2 (by simp; omega)
      omega)
    simp only [show ((-1074 : Int)).toNat = 0 from rfl, show (-(-1074 : Int)).toNat = 1074 from rfl, Nat.shiftLeft_zero]
    rw [hm]
  · have h1 : b % 9223372036854775808 < 9218868437227405312 := by omega
    rw [read_norm b (by omega) h1]
    have eF : b % 9223372036854775808 % 4503599627370496 = b % 4503599627370496 := by omega
    have eE : b % 9223372036854775808 / 4503599627370496 = b / 4503599627370496 % 2048 := by omega
    rw [eF, eE]
    have E0 : 1 ≤ b / 4503599627370496 % 2048 := by omega
    have Fb : b % 4503599627370496 < 4503599627370496 := Nat.mod_lt _ (by omega)
    unfold whN
    generalize b / 4503599627370496 % 2048 = E at *
    generalize b % 4503599627370496 = F at *
    rw [if_neg (by omega)]
    have lg := log2_norm (4503599627370496 + F) (by omega) (by omega)
    show Ieee.Datum.number _ _ _ = _
    by_cases c : 1075 ≤ E
    · rw [if_pos c]
      have t1 : (-1074 + ((E - 1 : Nat) : Int)).toNat = E - 1075 := by omega
      have t2 : (-(-1074 + ((E - 1 : Nat) : Int))).toNat = 0 := by omega
      rw [t1, t2, cut_0, Nat.shiftLeft_eq]
    · rw [if_neg c]
      have t1 : (-1074 + ((E - 1 : Nat) : Int)).toNat = 0 := by omega
      have t2 : (-(-1074 + ((E - 1 : Nat) : Int))).toNat = 1075 - E := by omega
      rw [t1, t2, Nat.shiftLeft_zero]
      by_cases f : 54 < 1075 - E
      · rw [if_pos f, cut_far _ _ _ (by omega)]
      · rw [if_neg f, cut_evn _ _ _ (by omega)]
end Go.Proofs.YtlaamkfpdompjaaGreatDoor
