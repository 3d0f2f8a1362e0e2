/- A row of bits turned round, and back: pure facts; no statement of the seat is proved here. -/
import Derived.Test.YtkanhbokdjppoaaGreatDoorBase
namespace Go.Proofs.YtkanhbokdjppoaaGreatDoor
set_option linter.unusedVariables false
open Go.RowKit
/-- A row of w bits turned by b to the higher bits. -/
def rotN (w b r : Nat) : Nat := r % 2 ^ (w - b) * 2 ^ b + r / 2 ^ (w - b)
theorem rotN_lt (w b r : Nat) (hb : b ≤ w) (hr : r < 2 ^ w) : rotN w b r < 2 ^ w := by
  have e : 2 ^ w = 2 ^ (w - b) * 2 ^ b := by rw [← Nat.pow_add]; congr 1; omega
  have h1 : r % 2 ^ (w - b) < 2 ^ (w - b) := Nat.mod_lt _ (Nat.pow_pos (by omega))
  have h2 : r / 2 ^ (w - b) < 2 ^ b := by rw [Nat.div_lt_iff_lt_mul (Nat.pow_pos (by omega)), Nat.mul_comm, ← e]; exact hr
  have h3 : (r % 2 ^ (w - b) + 1) * 2 ^ b ≤ 2 ^ (w - b) * 2 ^ b := Nat.mul_le_mul_right _ h1
  rw [Nat.add_mul, Nat.one_mul, ← e] at h3
  unfold rotN; omega
theorem rotN_back (w b r : Nat) (hb : b ≤ w) (hr : r < 2 ^ w) : rotN w (w - b) (rotN w b r) = r := by
  have e : 2 ^ w = 2 ^ (w - b) * 2 ^ b := by rw [← Nat.pow_add]; congr 1; omega
  have h2 : r / 2 ^ (w - b) < 2 ^ b := by rw [Nat.div_lt_iff_lt_mul (Nat.pow_pos (by omega)), Nat.mul_comm, ← e]; exact hr
  unfold rotN
  rw [show w - (w - b) = b by omega, Nat.mul_comm _ (2 ^ b), Nat.mul_add_mod, Nat.mod_eq_of_lt h2, Nat.mul_add_div (Nat.pow_pos (by omega)), Nat.div_eq_of_lt h2, Nat.add_zero, Nat.mul_comm, Nat.div_add_mod]
theorem rot_or (w b r : Nat) (hb : b ≤ w) (hw : w ≤ 64) (hr : r < 2 ^ w) : ((r * 2 ^ b % 2 ^ 64) ||| (r / 2 ^ (w - b))) % 2 ^ w = rotN w b r := by
  have e : 2 ^ w = 2 ^ (w - b) * 2 ^ b := by rw [← Nat.pow_add]; congr 1; omega
  have h2 : r / 2 ^ (w - b) < 2 ^ b := by rw [Nat.div_lt_iff_lt_mul (Nat.pow_pos (by omega)), Nat.mul_comm, ← e]; exact hr
  have h3 : 2 ^ b ≤ 2 ^ w := Nat.pow_le_pow_right (by omega) hb
  rw [Nat.or_mod_two_pow, Nat.mod_mod_of_dvd _ (Nat.pow_dvd_pow 2 hw), Nat.mod_eq_of_lt (a := r / 2 ^ (w - b)) (by omega)]
  unfold rotN
  rw [e, Nat.mul_mod_mul_right, Nat.mul_comm _ (2 ^ b), Nat.two_pow_add_eq_or_of_lt h2]
theorem rot_int (w b : Nat) (r : Int) (hb : b ≤ w) (hw : w ≤ 64) (h0 : 0 ≤ r) (h1 : r < ((2 ^ w : Nat) : Int)) :
    bits .and .u64 (bits .or .u64 (IntKind.u64.wrap (r * 2 ^ b)) (r / 2 ^ (w - b))) ((2 ^ w - 1 : Nat) : Int) = rotN w b r.toNat := by
  obtain ⟨n, rfl⟩ : ∃ n : Nat, r = n := ⟨r.toNat, by omega⟩
  have h1' : n < 2 ^ w := by omega
  have hp : (2 : Nat) ^ w ≤ 2 ^ 64 := Nat.pow_le_pow_right (by omega) hw
  have hp0 : 0 < 2 ^ w := Nat.pow_pos (by omega)
  have e1 : IntKind.u64.wrap ((n : Int) * 2 ^ b) = ((n * 2 ^ b % 2 ^ 64 : Nat) : Int) := by
    have : IntKind.u64.wrap ((n : Int) * 2 ^ b) = ((n : Int) * 2 ^ b) % 18446744073709551616 := by rfl
    rw [this, Int.natCast_emod, Int.natCast_mul, Int.natCast_pow]; rfl
  have e2 : (n : Int) / 2 ^ (w - b) = ((n / 2 ^ (w - b) : Nat) : Int) := by rw [Int.natCast_ediv, Int.natCast_pow]; rfl
  have l1 : n * 2 ^ b % 2 ^ 64 < 2 ^ 64 := Nat.mod_lt _ (by omega)
  have l2 : n / 2 ^ (w - b) < 2 ^ 64 := Nat.lt_of_le_of_lt (Nat.div_le_self _ _) (by omega)
  have l3 := Nat.or_lt_two_pow l1 l2
  rw [e1, e2, u64_or_nat _ _ l1 l2, u64_and_nat _ _ l3 (by omega), Nat.and_two_pow_sub_one_eq_mod, rot_or w b n hb hw h1', Int.toNat_natCast]
end Go.Proofs.YtkanhbokdjppoaaGreatDoor
