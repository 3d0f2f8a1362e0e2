/- A whole number that a float has is written and read back: no program; no statement of the seat is proved here. -/
import Derived.Test.YtlaamkfpdompjaaGreatDoorFlP
namespace Go.Proofs.YtlaamkfpdompjaaGreatDoor
set_option linter.unusedVariables false
/-- A number of at most 53 digits behind which noughts stand. -/
def Rep (n : Nat) : Prop := ∃ M j, n = M * 2 ^ j ∧ M < 9007199254740992 ∧ j ≤ 971
/-- The 53 digits of a number. -/
def kpt (n : Nat) : Nat := if n.log2 ≤ 52 then n * 2 ^ (52 - n.log2) else n / 2 ^ (n.log2 - 52)
theorem rep_dvd {n : Nat} (h : Rep n) (z : n ≠ 0) (l : 52 < n.log2) : n % 2 ^ (n.log2 - 52) = 0 := by
  obtain ⟨M, j, rfl, hM, _⟩ := h
  have hj : (M * 2 ^ j).log2 - 52 ≤ j := by
    have M0 : M ≠ 0 := by intro q; subst q; simp at z
    have hl : (M * 2 ^ j).log2 < 53 + j := (Nat.log2_lt z).2 (by
      rw [Nat.pow_add]
      exact (Nat.mul_lt_mul_right (Nat.pow_pos (by omega))).2 (by simpa using hM))
    omega
  obtain ⟨d, hd⟩ : ∃ d, j = ((M * 2 ^ j).log2 - 52) + d := ⟨j - ((M * 2 ^ j).log2 - 52), by omega⟩
  generalize (M * 2 ^ j).log2 - 52 = t at *
  subst hd
  rw [Nat.pow_add, Nat.mul_left_comm, Nat.mul_mod_right]
theorem log_le {n : Nat} (h : Rep n) (z : n ≠ 0) : n.log2 ≤ 1023 := by
  obtain ⟨M, j, rfl, hM, hj⟩ := h
  have hl : (M * 2 ^ j).log2 < 53 + j := (Nat.log2_lt z).2 (by
    rw [Nat.pow_add]
    exact (Nat.mul_lt_mul_right (Nat.pow_pos (by omega))).2 (by simpa using hM))
  omega
theorem kpt_bd {n : Nat} (h : Rep n) (z : n ≠ 0) : 4503599627370496 ≤ kpt n ∧ kpt n < 9007199254740992 ∧ (n.log2 ≤ 52 → kpt n = n * 2 ^ (52 - n.log2)) ∧ (52 < n.log2 → kpt n * 2 ^ (n.log2 - 52) = n) := by
  have lo : 2 ^ n.log2 ≤ n := Nat.log2_self_le z
  have hi : n < 2 ^ (n.log2 + 1) := Nat.lt_log2_self
  unfold kpt
  by_cases c : n.log2 ≤ 52
  · rw [if_pos c]
    have e : 2 ^ n.log2 * 2 ^ (52 - n.log2) = 4503599627370496 := by
      rw [← Nat.pow_add, show n.log2 + (52 - n.log2) = 52 by omega]
    have p : 0 < 2 ^ (52 - n.log2) := Nat.pow_pos (by omega)
    refine ⟨?_, ?_, fun _ => rfl, fun q => by omega⟩
    · rw [← e]; exact Nat.mul_le_mul_right _ lo
    · have : n * 2 ^ (52 - n.log2) < 2 ^ (n.log2 + 1) * 2 ^ (52 - n.log2) := (Nat.mul_lt_mul_right p).2 hi
      rw [Nat.pow_succ, Nat.mul_right_comm, e] at this
      exact this
  · rw [if_neg c]
    have d := rep_dvd h z (by omega)
    have ex : n / 2 ^ (n.log2 - 52) * 2 ^ (n.log2 - 52) = n := Nat.div_mul_cancel (Nat.dvd_of_mod_eq_zero d)
    have p : 0 < 2 ^ (n.log2 - 52) := Nat.pow_pos (by omega)
    have e : 4503599627370496 * 2 ^ (n.log2 - 52) = 2 ^ n.log2 := by
      rw [show (4503599627370496 : Nat) = 2 ^ 52 by decide, ← Nat.pow_add, show 52 + (n.log2 - 52) = n.log2 by omega]
    refine ⟨?_, ?_, fun q => by omega, fun _ => ex⟩
    · refine Nat.le_of_mul_le_mul_right (c := 2 ^ (n.log2 - 52)) ?_ p
      rw [ex, e]; exact lo
    · refine Nat.lt_of_mul_lt_mul_right (a := 2 ^ (n.log2 - 52)) ?_
      rw [ex, show (9007199254740992 : Nat) = 4503599627370496 * 2 by decide, Nat.mul_right_comm, e, ← Nat.pow_succ]
      exact hi
theorem rhe_exact (n d : Nat) (h : n % 2 ^ d = 0) : rhe n d = n / 2 ^ d := by
  unfold rhe
  have p : 0 < 2 ^ d := Nat.pow_pos (by omega)
  rw [h, if_neg (by omega)]
  omega
theorem nearest_is {n : Nat} (s : Bool) (h : Rep n) (z : n ≠ 0) : Ieee.double.nearest s n 0 = Ieee.double.word s ((n.log2 + 1022) * 4503599627370496 + kpt n) := by
  have ll := log_le h z
  obtain ⟨k0, k1, ka, kb⟩ := kpt_bd h z
  have e2 : Ieee.double.binade = 4503599627370496 := by decide
  have e3 : Ieee.double.leastPlace = -1074 := by decide
  have e4 : Ieee.double.infRung = 9218868437227405312 := by decide
  have e5 : (Ieee.double.fractionBits : Int) = 52 := by decide
  have lst : max ((0 : Int) + (n.log2 : Int) - Ieee.double.fractionBits) Ieee.double.leastPlace = (n.log2 : Int) - 52 := by rw [e3, e5]; omega
  have kk : Ieee.Toward.even.cut s (n <<< ((0 : Int) - ((n.log2 : Int) - 52)).toNat) (((n.log2 : Int) - 52) - 0).toNat = kpt n := by
    by_cases c : n.log2 ≤ 52
    · rw [show ((0 : Int) - ((n.log2 : Int) - 52)).toNat = 52 - n.log2 by omega, show (((n.log2 : Int) - 52) - 0).toNat = 0 by omega, cut_0, Nat.shiftLeft_eq, ka c]
    · rw [show ((0 : Int) - ((n.log2 : Int) - 52)).toNat = 0 by omega, show (((n.log2 : Int) - 52) - 0).toNat = n.log2 - 52 by omega, Nat.shiftLeft_zero, cut_evn _ _ _ (by omega), rhe_exact _ _ (rep_dvd h z (by omega))]
      unfold kpt
      rw [if_neg c]
  unfold Ieee.Format.nearest
  rw [if_neg z]
  simp only [lst, kk]
  rw [e2, e3, e4]
  congr 1
  rw [show ((n.log2 : Int) - 52 - -1074).toNat = n.log2 + 1022 by omega]
  omega
end Go.Proofs.YtlaamkfpdompjaaGreatDoor
