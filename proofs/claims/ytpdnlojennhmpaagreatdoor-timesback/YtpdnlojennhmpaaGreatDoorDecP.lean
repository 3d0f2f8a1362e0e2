/- Decimal digits, at least so many: no program; no statement of the seat is proved here. -/
import Derived.Test.YtpdnlojennhmpaaGreatDoorBase
import Derived.Lib.ItoaNum
namespace Go.Proofs.YtpdnlojennhmpaaGreatDoor
set_option linter.unusedVariables false
/-- The last i digits. -/
def decLow : Nat → Nat → List UInt8
  | 0, _ => []
  | i + 1, n => Lib.dg n i :: decLow i n
theorem decLow_len : ∀ (i n : Nat), (decLow i n).length = i
  | 0, _ => rfl
  | i + 1, n => by simp [decLow, decLow_len i n]
theorem decLow_snoc : ∀ (i n : Nat), decLow (i + 1) n = decLow i (n / 10) ++ [UInt8.ofNat (48 + n % 10)]
  | 0, n => by simp [decLow, Lib.dg]
  | i + 1, n => by
    rw [decLow, decLow_snoc i n, decLow]
    unfold Lib.dg
    rw [Nat.pow_succ, Nat.mul_comm (10 ^ i) 10, ← Nat.div_div_eq_div_mul]
    rfl
theorem decLow_pad (i n : Nat) (h : n < 10 ^ i) : ∀ k, decLow (i + k) n = List.replicate k 48 ++ decLow i n
  | 0 => by simp
  | k + 1 => by
    rw [show i + (k + 1) = (i + k) + 1 from rfl, decLow, decLow_pad i n h k]
    have : n / 10 ^ (i + k) = 0 := Nat.div_eq_of_lt (Nat.lt_of_lt_of_le h (Nat.pow_le_pow_right (by omega) (by omega)))
    unfold Lib.dg
    rw [this]
    simp [List.replicate_succ]
theorem decLow_all (u : Nat) : Lib.decDigits u = decLow (Lib.nDigits u) u := by
  induction u using Nat.strongRecOn with
  | ind u ih =>
    rw [Lib.decDigits]
    by_cases h : u < 10
    · rw [dif_pos h, Lib.nDigits_small h]; simp [decLow, Lib.dg, Nat.mod_eq_of_lt h]
    · rw [dif_neg h, Lib.nDigits_big h, decLow_snoc, ih (u / 10) (by omega)]
/-- The text of a number in decimal digits, at least so many. -/
def dcS (u least : Nat) : ByteArray := ⟨(decLow (max least (Lib.nDigits u)) u).toArray⟩
theorem dcS_size (u least : Nat) : (dcS u least).size = max least (Lib.nDigits u) := by
  unfold dcS; show (decLow _ u).toArray.size = _; simp [decLow_len]
/-- What the document's loop has when it ends. -/
theorem decLow_end (u i least : Nat) (hl : 1 ≤ least) (hi : least ≤ i) (hz : u / 10 ^ i = 0) (hm : ∀ j, j < i → u / 10 ^ j ≠ 0 ∨ j < least) : (⟨(decLow i u).toArray⟩ : ByteArray) = dcS u least := by
  have a := Lib.nDigits_pos u
  have b := Lib.lt_pow_nDigits u
  have p : ∀ k, 0 < 10 ^ k := fun k => Nat.pow_pos (by omega)
  have : i = max least (Lib.nDigits u) := by
    have hu : u < 10 ^ i := (Nat.div_eq_zero_iff.mp hz).resolve_left (by have := p i; omega)
    have h1 : Lib.nDigits u ≤ i := by
      by_cases g : Lib.nDigits u ≤ i
      · exact g
      · exfalso
        by_cases z : u < 10
        · rw [Lib.nDigits_small z] at g; omega
        · obtain ⟨m, hm'⟩ : ∃ m, Lib.nDigits u = m + 1 := ⟨Lib.nDigits u - 1, by omega⟩
          have key : ∀ (i u : Nat), 1 ≤ i → u < 10 ^ i → Lib.nDigits u ≤ i := by
            intro i
            induction i with
            | zero => intro u h; omega
            | succ i ih =>
              intro u _ hu
              by_cases z : u < 10
              · rw [Lib.nDigits_small z]; omega
              · rw [Lib.nDigits_big z]
                have i1 : 1 ≤ i := by
                  rcases i with _ | i
                  · simp at hu; omega
                  · omega
                have := ih (u / 10) i1 (by rw [Nat.pow_succ] at hu; omega)
                omega
          exact g (key i u (by omega) hu)
    by_cases g : i = max least (Lib.nDigits u)
    · exact g
    · have := hm (max least (Lib.nDigits u)) (by omega)
      rcases this with h | h
      · exfalso; apply h
        exact Nat.div_eq_of_lt (Nat.lt_of_lt_of_le b (Nat.pow_le_pow_right (by omega) (by omega)))
      · omega
  unfold dcS
  rw [this]
end Go.Proofs.YtpdnlojennhmpaaGreatDoor
