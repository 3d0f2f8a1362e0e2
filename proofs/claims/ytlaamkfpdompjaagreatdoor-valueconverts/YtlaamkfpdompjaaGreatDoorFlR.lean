/- A whole number written as a float is read back, and held against 2^64: no program; no statement of the seat is proved here. -/
import Derived.Test.YtlaamkfpdompjaaGreatDoorFlQ
import Derived.Laws.FloatArith
namespace Go.Proofs.YtlaamkfpdompjaaGreatDoor
set_option linter.unusedVariables false
/-- The rung of a whole number. -/
def rg (n : Nat) : Nat := if n = 0 then 0 else (n.log2 + 1022) * 4503599627370496 + kpt n
theorem rg_bd {n : Nat} (h : Rep n) : rg n < 9218868437227405312 := by
  unfold rg
  split
  · omega
  · next z =>
    have ll := log_le h z
    obtain ⟨k0, k1, _, _⟩ := kpt_bd h z
    omega
theorem read_rg {n : Nat} (h : Rep n) (z : n ≠ 0) : Ieee.double.read (rg n) = .number false (kpt n) ((n.log2 : Int) - 52) := by
  have ll := log_le h z
  obtain ⟨k0, k1, _, _⟩ := kpt_bd h z
  have e : rg n = (n.log2 + 1022) * 4503599627370496 + kpt n := by unfold rg; rw [if_neg z]
  rw [read_norm _ (by rw [e]; omega) (by rw [e]; omega)]
  have a1 : rg n / 9223372036854775808 % 2 = 0 := by rw [e]; omega
  have a2 : 4503599627370496 + rg n % 9223372036854775808 % 4503599627370496 = kpt n := by rw [e]; omega
  have a3 : (-1074 + ((rg n % 9223372036854775808 / 4503599627370496 - 1 : Nat) : Int)) = (n.log2 : Int) - 52 := by rw [e]; omega
  rw [a1, a2, a3]
  rfl
theorem read_0 : Ieee.double.read 0 = .number false 0 (-1074) := by decide
theorem cut_zero (s : Bool) (n d : Nat) (h : d ≤ n.log2 + 2) : Ieee.Toward.zero.cut s n d = n / 2 ^ d := by
  unfold Ieee.Toward.cut
  simp only [Nat.min_eq_left h, Nat.one_shiftLeft]
  rfl
theorem toInt_rg {n : Nat} (h : Rep n) : (Ieee.double.read (rg n)).toInt .zero = some (n : Int) := by
  by_cases z : n = 0
  · subst z; decide
  · have ll := log_le h z
    obtain ⟨k0, k1, ka, kb⟩ := kpt_bd h z
    have lg := log2_norm (kpt n) k0 k1
    rw [read_rg h z]
    show some (Ieee.signed false _ 0) = _
    by_cases c : n.log2 ≤ 52
    · have t1 : ((n.log2 : Int) - 52).toNat = 0 := by omega
      have t2 : (-((n.log2 : Int) - 52)).toNat = 52 - n.log2 := by omega
      rw [t1, t2, Nat.shiftLeft_zero, cut_zero _ _ _ (by omega), ka c, Nat.mul_div_cancel _ (Nat.pow_pos (by omega))]
      simp [Ieee.signed]
    · have t1 : ((n.log2 : Int) - 52).toNat = n.log2 - 52 := by omega
      have t2 : (-((n.log2 : Int) - 52)).toNat = 0 := by omega
      rw [t1, t2, cut_0, Nat.shiftLeft_eq, kb (by omega)]
      simp [Ieee.signed]
theorem val_rg {n : Nat} (h : Rep n) (hn : n < 18446744073709551616) : floatToIntVal .f64 (rg n) .u64 = some (n : Int) := by
  unfold floatToIntVal
  have : (FloatKind.f64.decode (rg n)).toInt .zero = some (n : Int) := toInt_rg h
  rw [this]
  have : IntKind.u64.min ≤ (n : Int) ∧ (n : Int) ≤ IntKind.u64.max := ⟨by show (0 : Int) ≤ _; omega, by show _ ≤ (18446744073709551615 : Int); omega⟩
  simp [this]
theorem read_2_64 : Ieee.double.read 4895412794951729152 = .number false 4503599627370496 12 := by decide
theorem cmp_lt (a b : Int) (h : a < b) : compare a b = .lt := by simp [compare, compareOfLessAndEq, h]
theorem cmp_gt (a b : Int) (h : b < a) : compare a b = .gt := by
  have h1 : ¬ a < b := by omega
  have h2 : ¬ a = b := by omega
  simp [compare, compareOfLessAndEq, h1, h2]
theorem cmp_eq (a b : Int) (h : a = b) : compare a b = .eq := by subst h; simp [compare, compareOfLessAndEq]
theorem order_rg {n : Nat} (h : Rep n) : (n < 18446744073709551616 → FloatKind.f64.format.order (rg n) 4895412794951729152 = some .lt) ∧ (18446744073709551616 ≤ n → FloatKind.f64.format.order (rg n) 4895412794951729152 = some .gt ∨ FloatKind.f64.format.order (rg n) 4895412794951729152 = some .eq) := by
  have o : FloatKind.f64.format.order (rg n) 4895412794951729152 = (Ieee.double.read (rg n)).order (Ieee.double.read 4895412794951729152) := rfl
  rw [o, read_2_64]
  by_cases z : n = 0
  · subst z
    exact ⟨fun _ => by decide, fun q => by omega⟩
  · have ll := log_le h z
    obtain ⟨k0, k1, ka, kb⟩ := kpt_bd h z
    have lo : 2 ^ n.log2 ≤ n := Nat.log2_self_le z
    have hi : n < 2 ^ (n.log2 + 1) := Nat.lt_log2_self
    rw [read_rg h z]
    have oo : (Ieee.Datum.number false (kpt n) ((n.log2 : Int) - 52)).order (.number false 4503599627370496 12) = some (compare (Ieee.signed false (kpt n) ((n.log2 : Int) - 52 - min ((n.log2 : Int) - 52) 12).toNat) (Ieee.signed false 4503599627370496 (12 - min ((n.log2 : Int) - 52) 12).toNat)) := rfl
    rw [oo]
    have sg : ∀ m u : Nat, Ieee.signed false m u = ((m * 2 ^ u : Nat) : Int) := fun m u => by simp [Ieee.signed, Nat.shiftLeft_eq]
    rw [sg, sg]
    refine ⟨fun hn => ?_, fun hn => ?_⟩
    · have l64 : n.log2 < 64 := (Nat.log2_lt z).2 (by simpa using hn)
      rw [show ((n.log2 : Int) - 52 - min ((n.log2 : Int) - 52) 12).toNat = 0 by omega, show (12 - min ((n.log2 : Int) - 52) 12).toNat = 64 - n.log2 by omega]
      have : kpt n * 2 ^ 0 < 4503599627370496 * 2 ^ (64 - n.log2) := by
        obtain ⟨t, ht⟩ : ∃ t, 64 - n.log2 = t + 1 := ⟨63 - n.log2, by omega⟩
        rw [ht, Nat.pow_succ]
        have p : 0 < 2 ^ t := Nat.pow_pos (by omega)
        have : 4503599627370496 * 2 ≤ 4503599627370496 * (2 ^ t * 2) := Nat.mul_le_mul_left _ (by omega)
        omega
      exact congrArg some (cmp_lt _ _ (Int.ofNat_lt.2 this))
    · have l64 : 64 ≤ n.log2 := (Nat.le_log2 z).2 (by simpa using hn)
      rw [show ((n.log2 : Int) - 52 - min ((n.log2 : Int) - 52) 12).toNat = n.log2 - 64 by omega, show (12 - min ((n.log2 : Int) - 52) 12).toNat = 0 by omega]
      have : 4503599627370496 * 2 ^ 0 ≤ kpt n * 2 ^ (n.log2 - 64) := by
        have p : 1 ≤ 2 ^ (n.log2 - 64) := Nat.pow_pos (by omega)
        have : kpt n * 1 ≤ kpt n * 2 ^ (n.log2 - 64) := Nat.mul_le_mul_left _ p
        omega
      rcases Nat.lt_or_eq_of_le this with q | q
      · exact Or.inl (congrArg some (cmp_gt _ _ (Int.ofNat_lt.2 q)))
      · exact Or.inr (congrArg some (cmp_eq _ _ (congrArg Int.ofNat q.symm)))
/-- What a float rounds to is such a number. -/
theorem rep_wh (b : Nat) (h : ¬ b / 4503599627370496 % 2048 = 2047) : Rep (whN b) := by
  unfold whN
  have Fb : b % 4503599627370496 < 4503599627370496 := Nat.mod_lt _ (by omega)
  have Eb : b / 4503599627370496 % 2048 < 2048 := Nat.mod_lt _ (by omega)
  generalize b / 4503599627370496 % 2048 = E at *
  generalize b % 4503599627370496 = F at *
  split
  · exact ⟨0, 0, by simp, by omega, by omega⟩
  · split
    · exact ⟨4503599627370496 + F, E - 1075, rfl, by omega, by omega⟩
    · split
      · exact ⟨0, 0, by simp, by omega, by omega⟩
      · refine ⟨rhe (4503599627370496 + F) (1075 - E), 0, by simp, ?_, by omega⟩
        unfold rhe
        have := Nat.div_le_self (4503599627370496 + F) (2 ^ (1075 - E))
        obtain ⟨t, ht⟩ : ∃ t, 1075 - E = t + 1 := ⟨1074 - E, by omega⟩
        have : (4503599627370496 + F) / 2 ^ (1075 - E) ≤ (4503599627370496 + F) / 2 := by
          rw [ht, Nat.pow_succ]
          exact Nat.div_le_div_left (by have : 1 ≤ 2 ^ t := Nat.pow_pos (by omega); omega) (by omega)
        split <;> omega
/-- A finite float rounded is the float of its number, with its sign. -/
theorem enc_wh (b : Nat) (h : ¬ b / 4503599627370496 % 2048 = 2047) : FloatKind.f64.encode ((FloatKind.f64.decode b).integral .even) = (if (b / 9223372036854775808 % 2 == 1) = true then 9223372036854775808 + rg (whN b) else rg (whN b)) := by
  have R := rep_wh b h
  have e : (FloatKind.f64.decode b).integral .even = .number (b / 9223372036854775808 % 2 == 1) (whN b) 0 := integral_is b h
  rw [e]
  generalize (b / 9223372036854775808 % 2 == 1) = s
  generalize whN b = n at *
  show Ieee.double.nearest s n 0 = _
  have sw : Ieee.double.signWeight = 9223372036854775808 := by decide
  by_cases z : n = 0
  · subst z
    unfold Ieee.Format.nearest rg
    rw [if_pos rfl, if_pos rfl]
    unfold Ieee.Format.word
    rw [sw]
  · rw [nearest_is s R z]
    unfold Ieee.Format.word rg
    rw [sw, if_neg z]
end Go.Proofs.YtlaamkfpdompjaaGreatDoor
