/- The document's whole, of every finite float; no statement of the seat is proved here. -/
import Derived.Test.YtpaibmganlaaeaaGreatDoorFz01
import Derived.Laws.FloatArith
import Derived.Test.YtpaibmganlaaeaaGreatDoorRows
import Derived.WalkKit
import Derived.WalkSpells
import Derived.WalkLawsBesides
import Derived.Handy
import Derived.Laws.Bits64b
import Derived.Deep.QuietTactic
import Derived.BigQuiet
namespace Go.Proofs.YtpaibmganlaaeaaGreatDoor
set_option linter.unusedVariables false
/-- A number cut by s binary digits, to the nearest, of two as near the even one. -/
def rhe (m s : Nat) : Nat := m / 2 ^ s + (if 2 ^ s < 2 * (m % 2 ^ s) ∨ 2 ^ s = 2 * (m % 2 ^ s) ∧ m / 2 ^ s % 2 = 1 then 1 else 0)
/-- The whole number nearest to a float (its size). -/
def whN (b : Nat) : Nat :=
  if b / 4503599627370496 % 2048 = 0 then 0
  else if 1075 ≤ b / 4503599627370496 % 2048 then (4503599627370496 + b % 4503599627370496) * 2 ^ (b / 4503599627370496 % 2048 - 1075)
  else if 54 < 1075 - b / 4503599627370496 % 2048 then 0
  else rhe (4503599627370496 + b % 4503599627370496) (1075 - b / 4503599627370496 % 2048)
theorem cut_0 (s : Bool) (n : Nat) (way : Ieee.Toward) : way.cut s n 0 = n := by
  unfold Ieee.Toward.cut
  cases way <;> simp [Nat.mod_one]
theorem cut_evn (s : Bool) (n d : Nat) (h : d ≤ n.log2 + 2) : Ieee.Toward.even.cut s n d = rhe n d := by
  unfold Ieee.Toward.cut rhe
  simp only [Nat.min_eq_left h, Nat.one_shiftLeft]
  congr 1
  by_cases c1 : 2 ^ d < 2 * (n % 2 ^ d)
  · simp [c1]
  · by_cases c2 : 2 ^ d = 2 * (n % 2 ^ d) ∧ n / 2 ^ d % 2 = 1
    · rw [if_pos (Or.inr c2)]
      simp [c2.2, ← c2.1]
    · rw [if_neg (by intro h; rcases h with h | h; exact c1 h; exact c2 h)]
      have : (decide (2 ^ d < 2 * (n % 2 ^ d)) || (2 ^ d == 2 * (n % 2 ^ d) && n / 2 ^ d % 2 == 1)) = false := by
        rw [Bool.or_eq_false_iff]
        refine ⟨by simpa using c1, ?_⟩
        rw [Bool.eq_false_iff]
        intro q
        simp at q
        exact c2 q
      rw [this]
      rfl
theorem cut_far (s : Bool) (n d : Nat) (h : n.log2 + 2 < d) : Ieee.Toward.even.cut s n d = 0 := by
  unfold Ieee.Toward.cut
  have hl : n < 2 ^ (n.log2 + 1) := Nat.lt_log2_self
  have e : 2 ^ (n.log2 + 2) = 2 * 2 ^ (n.log2 + 1) := by rw [Nat.pow_succ]; omega
  simp only [Nat.min_eq_right (Nat.le_of_lt h), Nat.one_shiftLeft]
  have h2 : n < 2 ^ (n.log2 + 2) := by omega
  rw [Nat.div_eq_of_lt h2, Nat.mod_eq_of_lt h2]
  simp
  omega
theorem log2_norm (m : Nat) (h0 : 4503599627370496 ≤ m) (h1 : m < 9007199254740992) : m.log2 = 52 := by
  have a : m.log2 < 53 := (Nat.log2_lt (by omega)).2 (by simpa using h1)
  have b : 52 ≤ m.log2 := (Nat.le_log2 (by omega)).2 (by simpa using h0)
  omega
theorem read_sub (b : Nat) (h : b % 9223372036854775808 < 4503599627370496) : Ieee.double.read b = .number (b / 9223372036854775808 % 2 == 1) (b % 9223372036854775808) (-1074) := by
  unfold Ieee.Format.read
  have e1 : Ieee.double.signWeight = 9223372036854775808 := by decide
  have e2 : Ieee.double.binade = 4503599627370496 := by decide
  have e3 : Ieee.double.leastPlace = -1074 := by decide
  simp only [e1, e2, e3]
  rw [if_pos h]
theorem read_norm (b : Nat) (h0 : 4503599627370496 ≤ b % 9223372036854775808) (h1 : b % 9223372036854775808 < 9218868437227405312) :
    Ieee.double.read b = .number (b / 9223372036854775808 % 2 == 1) (4503599627370496 + b % 9223372036854775808 % 4503599627370496) (-1074 + ((b % 9223372036854775808 / 4503599627370496 - 1 : Nat) : Int)) := by
  unfold Ieee.Format.read
  have e1 : Ieee.double.signWeight = 9223372036854775808 := by decide
  have e2 : Ieee.double.binade = 4503599627370496 := by decide
  have e3 : Ieee.double.leastPlace = -1074 := by decide
  have e4 : Ieee.double.infRung = 9218868437227405312 := by decide
  simp only [e1, e2, e3, e4]
  rw [if_neg (by omega), if_pos h1]
/-- A finite float made whole is its number. -/
theorem integral_is (b : Nat) (h : ¬ b / 4503599627370496 % 2048 = 2047) : (Ieee.double.read b).integral .even = .number (b / 9223372036854775808 % 2 == 1) (whN b) 0 := by
  by_cases s : b % 9223372036854775808 < 4503599627370496
  · rw [read_sub b s]
    unfold whN
    rw [if_pos (by omega)]
    show Ieee.Datum.number _ _ _ = _
    have hm := cut_far (b / 9223372036854775808 % 2 == 1) (b % 9223372036854775808) 1074 (by
      have : (b % 9223372036854775808).log2 < 53 := by
        by_cases z : b % 9223372036854775808 = 0
        · rw [z]; decide
        · exact (Nat.log2_lt z).2 (by simp; omega)
      omega)
    simp only [show ((-1074 : Int)).toNat = 0 from rfl, show (-(-1074 : Int)).toNat = 1074 from rfl, Nat.shiftLeft_zero]
    rw [hm]
  · have h1 : b % 9223372036854775808 < 9218868437227405312 := by omega
    rw [read_norm b (by omega) h1]
    have eF : b % 9223372036854775808 % 4503599627370496 = b % 4503599627370496 := by omega
    have eE : b % 9223372036854775808 / 4503599627370496 = b / 4503599627370496 % 2048 := by omega
    rw [eF, eE]
    have E0 : 1 ≤ b / 4503599627370496 % 2048 := by omega
    have Fb : b % 4503599627370496 < 4503599627370496 := Nat.mod_lt _ (by omega)
    unfold whN
    generalize b / 4503599627370496 % 2048 = E at *
    generalize b % 4503599627370496 = F at *
    rw [if_neg (by omega)]
    have lg := log2_norm (4503599627370496 + F) (by omega) (by omega)
    show Ieee.Datum.number _ _ _ = _
    by_cases c : 1075 ≤ E
    · rw [if_pos c]
      have t1 : (-1074 + ((E - 1 : Nat) : Int)).toNat = E - 1075 := by omega
      have t2 : (-(-1074 + ((E - 1 : Nat) : Int))).toNat = 0 := by omega
      rw [t1, t2, cut_0, Nat.shiftLeft_eq]
    · rw [if_neg c]
      have t1 : (-1074 + ((E - 1 : Nat) : Int)).toNat = 0 := by omega
      have t2 : (-(-1074 + ((E - 1 : Nat) : Int))).toNat = 1075 - E := by omega
      rw [t1, t2, Nat.shiftLeft_zero]
      by_cases f : 54 < 1075 - E
      · rw [if_pos f, cut_far _ _ _ (by omega)]
      · rw [if_neg f, cut_evn _ _ _ (by omega)]
end Go.Proofs.YtpaibmganlaaeaaGreatDoor
namespace Go.Proofs.YtpaibmganlaaeaaGreatDoor
set_option linter.unusedVariables false
/-- A number of at most 53 digits behind which noughts stand. -/
def Rep (n : Nat) : Prop := ∃ M j, n = M * 2 ^ j ∧ M < 9007199254740992 ∧ j ≤ 971
/-- The 53 digits of a number. -/
def kpt (n : Nat) : Nat := if n.log2 ≤ 52 then n * 2 ^ (52 - n.log2) else n / 2 ^ (n.log2 - 52)
theorem rep_dvd {n : Nat} (h : Rep n) (z : n ≠ 0) (l : 52 < n.log2) : n % 2 ^ (n.log2 - 52) = 0 := by
  obtain ⟨M, j, rfl, hM, _⟩ := h
  have hj : (M * 2 ^ j).log2 - 52 ≤ j := by
    have M0 : M ≠ 0 := by intro q; subst q; simp at z
    have hl : (M * 2 ^ j).log2 < 53 + j := (Nat.log2_lt z).2 (by
      rw [Nat.pow_add]
      exact (Nat.mul_lt_mul_right (Nat.pow_pos (by omega))).2 (by simpa using hM))
    omega
  obtain ⟨d, hd⟩ : ∃ d, j = ((M * 2 ^ j).log2 - 52) + d := ⟨j - ((M * 2 ^ j).log2 - 52), by omega⟩
  generalize (M * 2 ^ j).log2 - 52 = t at *
  subst hd
  rw [Nat.pow_add, Nat.mul_left_comm, Nat.mul_mod_right]
theorem log_le {n : Nat} (h : Rep n) (z : n ≠ 0) : n.log2 ≤ 1023 := by
  obtain ⟨M, j, rfl, hM, hj⟩ := h
  have hl : (M * 2 ^ j).log2 < 53 + j := (Nat.log2_lt z).2 (by
    rw [Nat.pow_add]
    exact (Nat.mul_lt_mul_right (Nat.pow_pos (by omega))).2 (by simpa using hM))
  omega
theorem kpt_bd {n : Nat} (h : Rep n) (z : n ≠ 0) : 4503599627370496 ≤ kpt n ∧ kpt n < 9007199254740992 ∧ (n.log2 ≤ 52 → kpt n = n * 2 ^ (52 - n.log2)) ∧ (52 < n.log2 → kpt n * 2 ^ (n.log2 - 52) = n) := by
  have lo : 2 ^ n.log2 ≤ n := Nat.log2_self_le z
  have hi : n < 2 ^ (n.log2 + 1) := Nat.lt_log2_self
  unfold kpt
  by_cases c : n.log2 ≤ 52
  · rw [if_pos c]
    have e : 2 ^ n.log2 * 2 ^ (52 - n.log2) = 4503599627370496 := by
      rw [← Nat.pow_add, show n.log2 + (52 - n.log2) = 52 by omega]
    have p : 0 < 2 ^ (52 - n.log2) := Nat.pow_pos (by omega)
    refine ⟨?_, ?_, fun _ => rfl, fun q => by omega⟩
    · rw [← e]; exact Nat.mul_le_mul_right _ lo
    · have : n * 2 ^ (52 - n.log2) < 2 ^ (n.log2 + 1) * 2 ^ (52 - n.log2) := (Nat.mul_lt_mul_right p).2 hi
      rw [Nat.pow_succ, Nat.mul_right_comm, e] at this
      exact this
  · rw [if_neg c]
    have d := rep_dvd h z (by omega)
    have ex : n / 2 ^ (n.log2 - 52) * 2 ^ (n.log2 - 52) = n := Nat.div_mul_cancel (Nat.dvd_of_mod_eq_zero d)
    have p : 0 < 2 ^ (n.log2 - 52) := Nat.pow_pos (by omega)
    have e : 4503599627370496 * 2 ^ (n.log2 - 52) = 2 ^ n.log2 := by
      rw [show (4503599627370496 : Nat) = 2 ^ 52 by decide, ← Nat.pow_add, show 52 + (n.log2 - 52) = n.log2 by omega]
    refine ⟨?_, ?_, fun q => by omega, fun _ => ex⟩
    · refine Nat.le_of_mul_le_mul_right (c := 2 ^ (n.log2 - 52)) ?_ p
      rw [ex, e]; exact lo
    · refine Nat.lt_of_mul_lt_mul_right (a := 2 ^ (n.log2 - 52)) ?_
      rw [ex, show (9007199254740992 : Nat) = 4503599627370496 * 2 by decide, Nat.mul_right_comm, e, ← Nat.pow_succ]
      exact hi
theorem rhe_exact (n d : Nat) (h : n % 2 ^ d = 0) : rhe n d = n / 2 ^ d := by
  unfold rhe
  have p : 0 < 2 ^ d := Nat.pow_pos (by omega)
  rw [h, if_neg (by omega)]
  omega
theorem nearest_is {n : Nat} (s : Bool) (h : Rep n) (z : n ≠ 0) : Ieee.double.nearest s n 0 = Ieee.double.word s ((n.log2 + 1022) * 4503599627370496 + kpt n) := by
  have ll := log_le h z
  obtain ⟨k0, k1, ka, kb⟩ := kpt_bd h z
  have e2 : Ieee.double.binade = 4503599627370496 := by decide
  have e3 : Ieee.double.leastPlace = -1074 := by decide
  have e4 : Ieee.double.infRung = 9218868437227405312 := by decide
  have e5 : (Ieee.double.fractionBits : Int) = 52 := by decide
  have lst : max ((0 : Int) + (n.log2 : Int) - Ieee.double.fractionBits) Ieee.double.leastPlace = (n.log2 : Int) - 52 := by rw [e3, e5]; omega
  have kk : Ieee.Toward.even.cut s (n <<< ((0 : Int) - ((n.log2 : Int) - 52)).toNat) (((n.log2 : Int) - 52) - 0).toNat = kpt n := by
    by_cases c : n.log2 ≤ 52
    · rw [show ((0 : Int) - ((n.log2 : Int) - 52)).toNat = 52 - n.log2 by omega, show (((n.log2 : Int) - 52) - 0).toNat = 0 by omega, cut_0, Nat.shiftLeft_eq, ka c]
    · rw [show ((0 : Int) - ((n.log2 : Int) - 52)).toNat = 0 by omega, show (((n.log2 : Int) - 52) - 0).toNat = n.log2 - 52 by omega, Nat.shiftLeft_zero, cut_evn _ _ _ (by omega), rhe_exact _ _ (rep_dvd h z (by omega))]
      unfold kpt
      rw [if_neg c]
  unfold Ieee.Format.nearest
  rw [if_neg z]
  simp only [lst, kk]
  rw [e2, e3, e4]
  congr 1
  rw [show ((n.log2 : Int) - 52 - -1074).toNat = n.log2 + 1022 by omega]
  omega
end Go.Proofs.YtpaibmganlaaeaaGreatDoor
namespace Go.Proofs.YtpaibmganlaaeaaGreatDoor
set_option linter.unusedVariables false
/-- The rung of a whole number. -/
def rg (n : Nat) : Nat := if n = 0 then 0 else (n.log2 + 1022) * 4503599627370496 + kpt n
theorem rg_bd {n : Nat} (h : Rep n) : rg n < 9218868437227405312 := by
  unfold rg
  split
  · omega
  · next z =>
    have ll := log_le h z
    obtain ⟨k0, k1, _, _⟩ := kpt_bd h z
    omega
theorem read_rg {n : Nat} (h : Rep n) (z : n ≠ 0) : Ieee.double.read (rg n) = .number false (kpt n) ((n.log2 : Int) - 52) := by
  have ll := log_le h z
  obtain ⟨k0, k1, _, _⟩ := kpt_bd h z
  have e : rg n = (n.log2 + 1022) * 4503599627370496 + kpt n := by unfold rg; rw [if_neg z]
  rw [read_norm _ (by rw [e]; omega) (by rw [e]; omega)]
  have a1 : rg n / 9223372036854775808 % 2 = 0 := by rw [e]; omega
  have a2 : 4503599627370496 + rg n % 9223372036854775808 % 4503599627370496 = kpt n := by rw [e]; omega
  have a3 : (-1074 + ((rg n % 9223372036854775808 / 4503599627370496 - 1 : Nat) : Int)) = (n.log2 : Int) - 52 := by rw [e]; omega
  rw [a1, a2, a3]
  rfl
theorem read_0 : Ieee.double.read 0 = .number false 0 (-1074) := by decide
theorem cut_zero (s : Bool) (n d : Nat) (h : d ≤ n.log2 + 2) : Ieee.Toward.zero.cut s n d = n / 2 ^ d := by
  unfold Ieee.Toward.cut
  simp only [Nat.min_eq_left h, Nat.one_shiftLeft]
  rfl
theorem toInt_rg {n : Nat} (h : Rep n) : (Ieee.double.read (rg n)).toInt .zero = some (n : Int) := by
  by_cases z : n = 0
  · subst z; decide
  · have ll := log_le h z
    obtain ⟨k0, k1, ka, kb⟩ := kpt_bd h z
    have lg := log2_norm (kpt n) k0 k1
    rw [read_rg h z]
    show some (Ieee.signed false _ 0) = _
    by_cases c : n.log2 ≤ 52
    · have t1 : ((n.log2 : Int) - 52).toNat = 0 := by omega
      have t2 : (-((n.log2 : Int) - 52)).toNat = 52 - n.log2 := by omega
      rw [t1, t2, Nat.shiftLeft_zero, cut_zero _ _ _ (by omega), ka c, Nat.mul_div_cancel _ (Nat.pow_pos (by omega))]
      simp [Ieee.signed]
    · have t1 : ((n.log2 : Int) - 52).toNat = n.log2 - 52 := by omega
      have t2 : (-((n.log2 : Int) - 52)).toNat = 0 := by omega
      rw [t1, t2, cut_0, Nat.shiftLeft_eq, kb (by omega)]
      simp [Ieee.signed]
theorem val_rg {n : Nat} (h : Rep n) (hn : n < 18446744073709551616) : floatToIntVal .f64 (rg n) .u64 = some (n : Int) := by
  unfold floatToIntVal
  have : (FloatKind.f64.decode (rg n)).toInt .zero = some (n : Int) := toInt_rg h
  rw [this]
  have : IntKind.u64.min ≤ (n : Int) ∧ (n : Int) ≤ IntKind.u64.max := ⟨by show (0 : Int) ≤ _; omega, by show _ ≤ (18446744073709551615 : Int); omega⟩
  simp [this]
theorem read_2_64 : Ieee.double.read 4895412794951729152 = .number false 4503599627370496 12 := by decide
theorem cmp_lt (a b : Int) (h : a < b) : compare a b = .lt := by simp [compare, compareOfLessAndEq, h]
theorem cmp_gt (a b : Int) (h : b < a) : compare a b = .gt := by
  have h1 : ¬ a < b := by omega
  have h2 : ¬ a = b := by omega
  simp [compare, compareOfLessAndEq, h1, h2]
theorem cmp_eq (a b : Int) (h : a = b) : compare a b = .eq := by subst h; simp [compare, compareOfLessAndEq]
theorem order_rg {n : Nat} (h : Rep n) : (n < 18446744073709551616 → FloatKind.f64.format.order (rg n) 4895412794951729152 = some .lt) ∧ (18446744073709551616 ≤ n → FloatKind.f64.format.order (rg n) 4895412794951729152 = some .gt ∨ FloatKind.f64.format.order (rg n) 4895412794951729152 = some .eq) := by
  have o : FloatKind.f64.format.order (rg n) 4895412794951729152 = (Ieee.double.read (rg n)).order (Ieee.double.read 4895412794951729152) := rfl
  rw [o, read_2_64]
  by_cases z : n = 0
  · subst z
    exact ⟨fun _ => by decide, fun q => by omega⟩
  · have ll := log_le h z
    obtain ⟨k0, k1, ka, kb⟩ := kpt_bd h z
    have lo : 2 ^ n.log2 ≤ n := Nat.log2_self_le z
    have hi : n < 2 ^ (n.log2 + 1) := Nat.lt_log2_self
    rw [read_rg h z]
    have oo : (Ieee.Datum.number false (kpt n) ((n.log2 : Int) - 52)).order (.number false 4503599627370496 12) = some (compare (Ieee.signed false (kpt n) ((n.log2 : Int) - 52 - min ((n.log2 : Int) - 52) 12).toNat) (Ieee.signed false 4503599627370496 (12 - min ((n.log2 : Int) - 52) 12).toNat)) := rfl
    rw [oo]
    have sg : ∀ m u : Nat, Ieee.signed false m u = ((m * 2 ^ u : Nat) : Int) := fun m u => by simp [Ieee.signed, Nat.shiftLeft_eq]
    rw [sg, sg]
    refine ⟨fun hn => ?_, fun hn => ?_⟩
    · have l64 : n.log2 < 64 := (Nat.log2_lt z).2 (by simpa using hn)
      rw [show ((n.log2 : Int) - 52 - min ((n.log2 : Int) - 52) 12).toNat = 0 by omega, show (12 - min ((n.log2 : Int) - 52) 12).toNat = 64 - n.log2 by omega]
      have : kpt n * 2 ^ 0 < 4503599627370496 * 2 ^ (64 - n.log2) := by
        obtain ⟨t, ht⟩ : ∃ t, 64 - n.log2 = t + 1 := ⟨63 - n.log2, by omega⟩
        rw [ht, Nat.pow_succ]
        have p : 0 < 2 ^ t := Nat.pow_pos (by omega)
        have : 4503599627370496 * 2 ≤ 4503599627370496 * (2 ^ t * 2) := Nat.mul_le_mul_left _ (by omega)
        omega
      exact congrArg some (cmp_lt _ _ (Int.ofNat_lt.2 this))
    · have l64 : 64 ≤ n.log2 := (Nat.le_log2 z).2 (by simpa using hn)
      rw [show ((n.log2 : Int) - 52 - min ((n.log2 : Int) - 52) 12).toNat = n.log2 - 64 by omega, show (12 - min ((n.log2 : Int) - 52) 12).toNat = 0 by omega]
      have : 4503599627370496 * 2 ^ 0 ≤ kpt n * 2 ^ (n.log2 - 64) := by
        have p : 1 ≤ 2 ^ (n.log2 - 64) := Nat.pow_pos (by omega)
        have : kpt n * 1 ≤ kpt n * 2 ^ (n.log2 - 64) := Nat.mul_le_mul_left _ p
        omega
      rcases Nat.lt_or_eq_of_le this with q | q
      · exact Or.inl (congrArg some (cmp_gt _ _ (Int.ofNat_lt.2 q)))
      · exact Or.inr (congrArg some (cmp_eq _ _ (congrArg Int.ofNat q.symm)))
/-- What a float rounds to is such a number. -/
theorem rep_wh (b : Nat) (h : ¬ b / 4503599627370496 % 2048 = 2047) : Rep (whN b) := by
  unfold whN
  have Fb : b % 4503599627370496 < 4503599627370496 := Nat.mod_lt _ (by omega)
  have Eb : b / 4503599627370496 % 2048 < 2048 := Nat.mod_lt _ (by omega)
  generalize b / 4503599627370496 % 2048 = E at *
  generalize b % 4503599627370496 = F at *
  split
  · exact ⟨0, 0, by simp, by omega, by omega⟩
  · split
    · exact ⟨4503599627370496 + F, E - 1075, rfl, by omega, by omega⟩
    · split
      · exact ⟨0, 0, by simp, by omega, by omega⟩
      · refine ⟨rhe (4503599627370496 + F) (1075 - E), 0, by simp, ?_, by omega⟩
        unfold rhe
        have := Nat.div_le_self (4503599627370496 + F) (2 ^ (1075 - E))
        obtain ⟨t, ht⟩ : ∃ t, 1075 - E = t + 1 := ⟨1074 - E, by omega⟩
        have : (4503599627370496 + F) / 2 ^ (1075 - E) ≤ (4503599627370496 + F) / 2 := by
          rw [ht, Nat.pow_succ]
          exact Nat.div_le_div_left (by have : 1 ≤ 2 ^ t := Nat.pow_pos (by omega); omega) (by omega)
        split <;> omega
/-- A finite float rounded is the float of its number, with its sign. -/
theorem enc_wh (b : Nat) (h : ¬ b / 4503599627370496 % 2048 = 2047) : FloatKind.f64.encode ((FloatKind.f64.decode b).integral .even) = (if (b / 9223372036854775808 % 2 == 1) = true then 9223372036854775808 + rg (whN b) else rg (whN b)) := by
  have R := rep_wh b h
  have e : (FloatKind.f64.decode b).integral .even = .number (b / 9223372036854775808 % 2 == 1) (whN b) 0 := integral_is b h
  rw [e]
  generalize (b / 9223372036854775808 % 2 == 1) = s
  generalize whN b = n at *
  show Ieee.double.nearest s n 0 = _
  have sw : Ieee.double.signWeight = 9223372036854775808 := by decide
  by_cases z : n = 0
  · subst z
    unfold Ieee.Format.nearest rg
    rw [if_pos rfl, if_pos rfl]
    unfold Ieee.Format.word
    rw [sw]
  · rw [nearest_is s R z]
    unfold Ieee.Format.word rg
    rw [sw, if_neg z]
end Go.Proofs.YtpaibmganlaaeaaGreatDoor
namespace Go.Proofs.YtpaibmganlaaeaaGreatDoor
set_option linter.unusedVariables false
open Go.RowKit
theorem andE (b : Nat) (h : b < 18446744073709551616) : bits BinOp.and IntKind.u64 ((b : Int) / 4503599627370496) 2047 = ((b / 4503599627370496 % 2048 : Nat) : Int) := by
  have e := bits_and_u64_nat (b / 4503599627370496) 2047 (by omega) (by omega)
  have : b / 4503599627370496 &&& 2047 = b / 4503599627370496 % 2048 := Nat.and_two_pow_sub_one_eq_mod _ 11
  rw [this] at e
  simpa using e
theorem andF (b : Nat) (h : b < 18446744073709551616) : bits BinOp.and IntKind.u64 (b : Int) 4503599627370495 = ((b % 4503599627370496 : Nat) : Int) := by
  have e := bits_and_u64_nat b 4503599627370495 h (by omega)
  have : b &&& 4503599627370495 = b % 4503599627370496 := Nat.and_two_pow_sub_one_eq_mod _ 52
  rw [this] at e
  simpa using e
set_option maxRecDepth 100000 in
set_option maxHeartbeats 1000000 in
theorem wholeR_0 (b : Nat) (h : b < 18446744073709551616) (z : b / 4503599627370496 % 2048 = 0) (w : World) :
    Calls Tryz.prog 171 #[.int .u64 b] w fun e w' => e = .returned (.tuple #[.int .u64 (whN b : Int), .bool (b / 9223372036854775808 == 1), .bool true]) ∧ w' = w := by
  have aE := andE b h
  have aF := andF b h
  have wz : whN b = 0 := by unfold whN; rw [if_pos z]
  have sb : (((b : Int) / 9223372036854775808) == 1) = (b / 9223372036854775808 == 1) := by
    rw [Bool.eq_iff_iff]; simp; omega
  rw [z] at aE
  rw [wz]
  generalize (b / 9223372036854775808 == 1) = s at *
  go_enter Tryz.func171, Tryz.ntmps171
  go_wp2
  exact bodyPost_ret (v := .tuple #[.int .u64 0, .bool s, .bool true]) (by simp [results, Tryz.results171, go_sem]) rfl ⟨rfl, rfl⟩
end Go.Proofs.YtpaibmganlaaeaaGreatDoor
namespace Go.Proofs.YtpaibmganlaaeaaGreatDoor
set_option linter.unusedVariables false
open Go.RowKit
theorem orM (F : Nat) (h : F < 4503599627370496) : bits BinOp.or IntKind.u64 (F : Int) 4503599627370496 = ((4503599627370496 + F : Nat) : Int) := by
  have e := bits_or_u64_nat F 4503599627370496 (by omega) (by omega)
  have : F ||| 4503599627370496 = 4503599627370496 + F := by
    have := Nat.two_pow_add_eq_or_of_lt (i := 52) (b := F) (by simpa using h) 1
    simp at this
    rw [Nat.or_comm]
    omega
  rw [this] at e
  simpa using e
set_option maxRecDepth 100000 in
set_option maxHeartbeats 1000000 in
theorem wholeR_far (b : Nat) (h : b < 18446744073709551616) (z : ¬ b / 4503599627370496 % 2048 = 0) (f : 54 < 1075 - b / 4503599627370496 % 2048) (w : World) :
    Calls Tryz.prog 171 #[.int .u64 b] w fun e w' => e = .returned (.tuple #[.int .u64 (whN b : Int), .bool (b / 9223372036854775808 == 1), .bool true]) ∧ w' = w := by
  have aE := andE b h
  have aF := andF b h
  have wz : whN b = 0 := by unfold whN; rw [if_neg z, if_neg (by omega), if_pos f]
  have sb : (((b : Int) / 9223372036854775808) == 1) = (b / 9223372036854775808 == 1) := by
    rw [Bool.eq_iff_iff]; simp; omega
  rw [wz]
  have Fb : b % 4503599627370496 < 4503599627370496 := Nat.mod_lt _ (by omega)
  have oM := orM _ Fb
  generalize (b / 9223372036854775808 == 1) = s at *
  generalize b / 4503599627370496 % 2048 = E at *
  generalize b % 4503599627370496 = F at *
  have d1 : ((E : Int) - 1075 == -1075) = false := by simp; omega
  have d2 : ¬ (0 : Int) ≤ (E : Int) - 1075 := by omega
  have d3 : (54 : Int) < -((E : Int) - 1075) := by omega
  clear z
  go_enter Tryz.func171, Tryz.ntmps171
  go_wp2
  exact bodyPost_ret (v := .tuple #[.int .u64 0, .bool s, .bool true]) (by simp [results, Tryz.results171, go_sem]) rfl ⟨rfl, rfl⟩
end Go.Proofs.YtpaibmganlaaeaaGreatDoor
namespace Go.Proofs.YtpaibmganlaaeaaGreatDoor
set_option linter.unusedVariables false
open Go.RowKit
set_option maxRecDepth 100000 in
set_option maxHeartbeats 4000000 in
theorem wholeR_hi (b : Nat) (h : b < 18446744073709551616) (c : 1075 ≤ b / 4503599627370496 % 2048) (f : b / 4503599627370496 % 2048 ≤ 1086) (w : World) :
    Calls Tryz.prog 171 #[.int .u64 b] w fun e w' => e = .returned (.tuple #[.int .u64 (whN b : Int), .bool (b / 9223372036854775808 == 1), .bool true]) ∧ w' = w := by
  have aE := andE b h
  have aF := andF b h
  have wz : whN b = (4503599627370496 + b % 4503599627370496) * 2 ^ (b / 4503599627370496 % 2048 - 1075) := by unfold whN; rw [if_neg (by omega), if_pos c]
  have sb : (((b : Int) / 9223372036854775808) == 1) = (b / 9223372036854775808 == 1) := by
    rw [Bool.eq_iff_iff]; simp; omega
  rw [wz]
  have Fb : b % 4503599627370496 < 4503599627370496 := Nat.mod_lt _ (by omega)
  have oM := orM _ Fb
  generalize (b / 9223372036854775808 == 1) = s at *
  generalize b / 4503599627370496 % 2048 = E at *
  generalize b % 4503599627370496 = F at *
  clear wz
  rcases (by omega : E = 1075 ∨ E = 1076 ∨ E = 1077 ∨ E = 1078 ∨ E = 1079 ∨ E = 1080 ∨ E = 1081 ∨ E = 1082 ∨ E = 1083 ∨ E = 1084 ∨ E = 1085 ∨ E = 1086) with rfl | rfl | rfl | rfl | rfl | rfl | rfl | rfl | rfl | rfl | rfl | rfl
  all_goals
    go_enter Tryz.func171, Tryz.ntmps171
    go_wp2
    exact bodyPost_ret (v := .tuple #[.int .u64 _, .bool s, .bool true]) (by simp [results, Tryz.results171, go_sem] <;> omega) rfl ⟨rfl, rfl⟩
end Go.Proofs.YtpaibmganlaaeaaGreatDoor
namespace Go.Proofs.YtpaibmganlaaeaaGreatDoor
set_option linter.unusedVariables false
open Go.RowKit
theorem and1 (q : Nat) (h : q < 18446744073709551616) : bits BinOp.and IntKind.u64 (q : Int) 1 = ((q % 2 : Nat) : Int) := by
  have e := bits_and_u64_nat q 1 h (by omega)
  have : q &&& 1 = q % 2 := Nat.and_two_pow_sub_one_eq_mod _ 1
  rw [this] at e
  simpa using e
theorem andT (M t : Nat) (hM : M < 18446744073709551616) (ht : t ≤ 54) : bits BinOp.and IntKind.u64 (M : Int) (IntKind.u64.wrap (IntKind.u64.wrap (2 ^ t) - 1)) = ((M % 2 ^ t : Nat) : Int) := by
  have p : 1 ≤ 2 ^ t := Nat.pow_pos (by omega)
  have q : 2 ^ t ≤ 2 ^ 54 := Nat.pow_le_pow_right (by omega) ht
  have q' : (2 : Nat) ^ 54 = 18014398509481984 := by decide
  have c : ((2 : Int) ^ t) = ((2 ^ t : Nat) : Int) := by simp
  have e : IntKind.u64.wrap (IntKind.u64.wrap (2 ^ t) - 1) = ((2 ^ t - 1 : Nat) : Int) := by
    rw [c, IntKind.wrap_u64, IntKind.wrap_u64]
    omega
  rw [e]
  have b := bits_and_u64_nat M (2 ^ t - 1) hM (by omega)
  rw [Nat.and_two_pow_sub_one_eq_mod] at b
  exact b
theorem wrapH (t : Nat) (ht : t ≤ 54) : IntKind.u64.wrap (2 ^ t) = ((2 ^ t : Nat) : Int) := by
  have q : 2 ^ t ≤ 2 ^ 54 := Nat.pow_le_pow_right (by omega) ht
  have q' : (2 : Nat) ^ 54 = 18014398509481984 := by decide
  have p : 0 < 2 ^ t := Nat.pow_pos (by omega)
  have c : ((2 : Int) ^ t) = ((2 ^ t : Nat) : Int) := by simp
  rw [c, IntKind.wrap_u64]
  generalize 2 ^ t = z at *
  omega
theorem below_drew (w : World) (n : Nat) : Below w.heap.size w (w.drewN n) := ⟨rfl, rfl, rfl, Nat.le_refl _, fun _ _ => rfl⟩
set_option maxRecDepth 100000 in
set_option maxHeartbeats 4000000 in
theorem whole_mid (F t : Nat) (Fb : F < 4503599627370496) (t0 : 1 ≤ t) (t1 : t ≤ 54) (b : Nat) (s : Bool) (w : World) 
    (aE : bits BinOp.and IntKind.u64 ((b : Int) / 4503599627370496) 2047 = 1075 - (t : Int))
    (aF : bits BinOp.and IntKind.u64 (b : Int) 4503599627370495 = (F : Int))
    (sb : (((b : Int) / 9223372036854775808) == 1) = s) :
    Calls Tryz.prog 171 #[.int .u64 b] w fun e w' => e = .returned (.tuple #[.int .u64 (rhe (4503599627370496 + F) t : Nat), .bool s, .bool true]) ∧ Below w.heap.size w w' := by
  have oM := orM _ Fb
  have d1 : (1075 - (t : Int) - 1075 == -1075) = false := by simp; omega
  have d0 : 1075 - (t : Int) - 1075 = - t := by omega
  have d2 : ¬ (0 : Int) ≤ - t := by omega
  obtain ⟨Q, hq⟩ : ∃ Q, (4503599627370496 + F) / 2 ^ t = Q := ⟨_, rfl⟩
  obtain ⟨R, hr⟩ : ∃ R, (4503599627370496 + F) % 2 ^ t = R := ⟨_, rfl⟩
  obtain ⟨H, hh⟩ : ∃ H, 2 ^ (t - 1) = H := ⟨_, rfl⟩
  have h2 : 2 ^ t = 2 * H := by rw [← hh]; obtain ⟨u, rfl⟩ : ∃ u, t = u + 1 := ⟨t - 1, by omega⟩; rw [Nat.pow_succ]; simp; omega
  have e1 : (4503599627370496 + (F : Int)) / 2 ^ t = (Q : Int) := by rw [← hq]; simp
  have e2 : bits BinOp.and IntKind.u64 (4503599627370496 + (F : Int)) (IntKind.u64.wrap (IntKind.u64.wrap (2 ^ t) - 1)) = (R : Int) := by
    have := andT (4503599627370496 + F) t (by omega) t1
    rw [hr] at this
    simpa using this
  have e3 : IntKind.u64.wrap (2 ^ (t - 1)) = (H : Int) := by rw [wrapH (t - 1) (by omega), hh]
  have Qb : Q ≤ 4503599627370496 + F := by rw [← hq]; exact Nat.div_le_self _ _
  have e4 : bits BinOp.and IntKind.u64 (Q : Int) 1 = ((Q % 2 : Nat) : Int) := and1 Q (by omega)
  have RH : Hid (rhe (4503599627370496 + F) t = Q + (if H < R ∨ R = H ∧ Q % 2 = 1 then 1 else 0)) := by
    show _ = _
    unfold rhe
    rw [hq, hr, h2]
    congr 1
    by_cases c : H < R ∨ R = H ∧ Q % 2 = 1
    · rw [if_pos c, if_pos (by omega)]
    · rw [if_neg c, if_neg (by omega)]
  clear hq hr hh h2
  rw [RH.out]
  by_cases c1 : H < R
  · have c1' : (H : Int) < R := by omega
    rw [if_pos (Or.inl c1)]
    clear c1 RH
    go_enter Tryz.func171, Tryz.ntmps171
    go_wp2_with fail
    go_quiet (fail)
    go_wp2
    exact bodyPost_ret (v := .tuple #[.int .u64 ((Q + 1 : Nat) : Int), .bool s, .bool true]) (by simp [results, Tryz.results171, go_sem]) rfl ⟨rfl, below_drew _ _⟩
  · by_cases c2 : R = H ∧ Q % 2 = 1
    · obtain ⟨c2, c3⟩ := c2
      subst c2
      rw [if_pos (Or.inr ⟨rfl, c3⟩)]
      rw [c3] at e4
      clear RH
      go_enter Tryz.func171, Tryz.ntmps171
      go_wp2_with fail
      go_quiet (fail)
      go_wp2
      exact bodyPost_ret (v := .tuple #[.int .u64 ((Q + 1 : Nat) : Int), .bool s, .bool true]) (by simp [results, Tryz.results171, go_sem]) rfl ⟨rfl, below_drew _ _⟩
    · rw [if_neg (by omega)]
      by_cases c4 : R = H
      · subst c4
        have c5 : Q % 2 = 0 := by omega
        rw [c5] at e4
        clear RH
        go_enter Tryz.func171, Tryz.ntmps171
        go_wp2_with fail
        go_quiet (fail)
        go_wp2
        exact bodyPost_ret (v := .tuple #[.int .u64 (Q : Int), .bool s, .bool true]) (by simp [results, Tryz.results171, go_sem]) rfl ⟨rfl, below_drew _ _⟩
      · have c5 : ((R : Int) == (H : Int)) = false := by simp; omega
        have c6 : ¬ (H : Int) < R := by omega
        clear RH
        go_enter Tryz.func171, Tryz.ntmps171
        go_wp2_with fail
        go_quiet (fail)
        go_wp2
        exact bodyPost_ret (v := .tuple #[.int .u64 (Q : Int), .bool s, .bool true]) (by simp [results, Tryz.results171, go_sem]) rfl ⟨rfl, below_drew _ _⟩
set_option maxRecDepth 100000 in
set_option maxHeartbeats 4000000 in
theorem whole_big (F t : Nat) (Fb : F < 4503599627370496) (t0 : 12 ≤ t) (t1 : t ≤ 972) (b : Nat) (s : Bool) (w : World) 
    (aE : bits BinOp.and IntKind.u64 ((b : Int) / 4503599627370496) 2047 = 1075 + (t : Int))
    (aF : bits BinOp.and IntKind.u64 (b : Int) 4503599627370495 = (F : Int))
    (sb : (((b : Int) / 9223372036854775808) == 1) = s) :
    Calls Tryz.prog 171 #[.int .u64 b] w fun e w' => (∃ n : Int, e = .returned (.tuple #[.int .u64 n, .bool s, .bool false])) ∧ Below w.heap.size w w' := by
  have oM := orM _ Fb
  have d1 : (1075 + (t : Int) - 1075 == -1075) = false := by simp; omega
  have d0 : 1075 + (t : Int) - 1075 = t := by omega
  have d3 : ¬ (t : Int) ≤ 11 := by omega
  by_cases c : t ≤ 63
  · go_enter Tryz.func171, Tryz.ntmps171
    go_wp2
    exact bodyPost_ret (v := .tuple #[.int .u64 (IntKind.u64.wrap ((4503599627370496 + ↑F) * 2 ^ t)), .bool s, .bool false]) (by simp [results, Tryz.results171, go_sem]) rfl ⟨⟨_, rfl⟩, Below.refl _ _⟩
  · have c' : ¬ (t : Int) ≤ 63 := by omega
    go_enter Tryz.func171, Tryz.ntmps171
    go_wp2
    exact bodyPost_ret (v := .tuple #[.int .u64 (IntKind.u64.wrap ((4503599627370496 + ↑F) * 9223372036854775808)), .bool s, .bool false]) (by simp [results, Tryz.results171, go_sem]) rfl ⟨⟨_, rfl⟩, Below.refl _ _⟩
end Go.Proofs.YtpaibmganlaaeaaGreatDoor
namespace Go.Proofs.YtpaibmganlaaeaaGreatDoor
set_option linter.unusedVariables false
/-- Is a float finite? -/
def finB (x : Nat) : Bool := !(x / 4503599627370496 % 2048 == 2047)
/-- The whole number nearest to a float. -/
def flN (x : Nat) : Int := if x / 9223372036854775808 % 2 = 1 then -(whN x : Int) else (whN x : Int)
theorem fin_iff (x : Nat) : finB x = true ↔ ¬ x / 4503599627370496 % 2048 = 2047 := by unfold finB; simp
theorem fin_not (x : Nat) : finB x = false ↔ x / 4503599627370496 % 2048 = 2047 := by unfold finB; simp
theorem read_fin (x : Nat) (h : finB x = true) : ∃ m p, Ieee.double.read x = .number (x / 9223372036854775808 % 2 == 1) m p ∧ -1074 ≤ p ∧ (m = 0 ↔ x % 9223372036854775808 = 0) := by
  rw [fin_iff] at h
  by_cases s : x % 9223372036854775808 < 4503599627370496
  · exact ⟨_, _, read_sub x s, by omega, Iff.rfl⟩
  · exact ⟨_, _, read_norm x (by omega) (by omega), by omega, by omega⟩
theorem order_zero (x : Nat) (s : Bool) (m : Nat) (p : Int) (h : Ieee.double.read x = .number s m p) (hp : -1074 ≤ p) :
    FloatKind.f64.format.order x 0 = some (compare (Ieee.signed s m (p + 1074).toNat) 0) := by
  have o : FloatKind.f64.format.order x 0 = (Ieee.double.read x).order (Ieee.double.read 0) := rfl
  rw [o, h, read_0]
  have oo : (Ieee.Datum.number s m p).order (.number false 0 (-1074)) = some (compare (Ieee.signed s m (p - min p (-1074)).toNat) (Ieee.signed false 0 (-1074 - min p (-1074)).toNat)) := rfl
  rw [oo, show min p (-1074) = -1074 by omega]
  have z : Ieee.signed false 0 (-1074 - (-1074 : Int)).toNat = 0 := by decide
  rw [z, show p - -1074 = p + 1074 by omega]
theorem signed_zero (s : Bool) (m u : Nat) : Ieee.signed s m u = (if s = true then -((m * 2 ^ u : Nat) : Int) else ((m * 2 ^ u : Nat) : Int)) := by
  cases s <;> simp [Ieee.signed, Nat.shiftLeft_eq]
/-- Of finite floats just the two noughts equal 0. -/
theorem ord_eq (x : Nat) (h : finB x = true) : (FloatKind.f64.format.order x 0 == some .eq) = (x % 9223372036854775808 == 0) := by
  obtain ⟨m, p, r, hp, z⟩ := read_fin x h
  rw [order_zero x _ m p r hp, signed_zero]
  have pw : 0 < 2 ^ (p + 1074).toNat := Nat.pow_pos (by omega)
  by_cases m0 : m = 0
  · have z0 := z.1 m0
    subst m0
    rw [z0]
    simp [compare, compareOfLessAndEq]
  · have z0 : ¬ x % 9223372036854775808 = 0 := fun q => m0 (z.2 q)
    have mp : 0 < m * 2 ^ (p + 1074).toNat := Nat.mul_pos (by omega) pw
    have e : (x % 9223372036854775808 == 0) = false := by simpa using z0
    rw [e]
    generalize m * 2 ^ (p + 1074).toNat = q at *
    split
    · rw [cmp_lt _ _ (by omega)]; rfl
    · rw [cmp_gt _ _ (by omega)]; rfl
/-- Those with a sign that are no nought lie below 0. -/
theorem ord_lt (x : Nat) (h : finB x = true) : (FloatKind.f64.format.order x 0 == some .lt) = (x / 9223372036854775808 % 2 == 1 && !(x % 9223372036854775808 == 0)) := by
  obtain ⟨m, p, r, hp, z⟩ := read_fin x h
  rw [order_zero x _ m p r hp, signed_zero]
  have pw : 0 < 2 ^ (p + 1074).toNat := Nat.pow_pos (by omega)
  generalize (x / 9223372036854775808 % 2 == 1) = s at *
  by_cases m0 : m = 0
  · have z0 := z.1 m0
    subst m0
    rw [z0]
    simp [compare, compareOfLessAndEq]
  · have z0 : ¬ x % 9223372036854775808 = 0 := fun q => m0 (z.2 q)
    have mp : 0 < m * 2 ^ (p + 1074).toNat := Nat.mul_pos (by omega) pw
    have e : (x % 9223372036854775808 == 0) = false := by simpa using z0
    rw [e]
    generalize m * 2 ^ (p + 1074).toNat = q at *
    cases s
    · rw [if_neg (by decide), cmp_gt _ _ (by omega)]; rfl
    · rw [if_pos rfl, cmp_lt _ _ (by omega)]; rfl
/-- Infinities are no nought. -/
theorem ord_inf (x : Nat) (h : finB x = false) (n : fnan x = false) : FloatKind.f64.format.order x 0 = some (if x / 9223372036854775808 % 2 == 1 then .lt else .gt) ∧ x % 9223372036854775808 = 9218868437227405312 := by
  rw [fin_not] at h
  have e : x % 9223372036854775808 = 9218868437227405312 := by
    unfold fnan at n
    have := of_decide_eq_false n
    omega
  refine ⟨?_, e⟩
  have o : FloatKind.f64.format.order x 0 = (Ieee.double.read x).order (Ieee.double.read 0) := rfl
  have r : Ieee.double.read x = .infinity (x / 9223372036854775808 % 2 == 1) := by
    unfold Ieee.Format.read
    have e1 : Ieee.double.signWeight = 9223372036854775808 := by decide
    have e2 : Ieee.double.binade = 4503599627370496 := by decide
    have e4 : Ieee.double.infRung = 9218868437227405312 := by decide
    simp only [e1, e2, e4]
    rw [if_neg (by omega), if_neg (by omega), if_pos e]
  rw [o, r, read_0]
  rfl
theorem int_inf (x : Nat) (h : finB x = false) (n : fnan x = false) : (FloatKind.f64.decode x).integral .even = .infinity (x / 9223372036854775808 % 2 == 1) := by
  have e := (ord_inf x h n).2
  have r : Ieee.double.read x = .infinity (x / 9223372036854775808 % 2 == 1) := by
    unfold Ieee.Format.read
    have e1 : Ieee.double.signWeight = 9223372036854775808 := by decide
    have e2 : Ieee.double.binade = 4503599627370496 := by decide
    have e4 : Ieee.double.infRung = 9218868437227405312 := by decide
    simp only [e1, e2, e4]
    rw [if_neg (by omega), if_neg (by omega), if_pos e]
  show (Ieee.double.read x).integral .even = _
  rw [r]
  rfl
theorem nan_fin (x : Nat) (h : finB x = true) : fnan x = false := by
  rw [fin_iff] at h
  unfold fnan
  exact decide_eq_false (by omega)
end Go.Proofs.YtpaibmganlaaeaaGreatDoor
namespace Go.Proofs.YtpaibmganlaaeaaGreatDoor
set_option linter.unusedVariables false
open Go.RowKit
theorem wh_small (b : Nat) (h : b / 4503599627370496 % 2048 ≤ 1086) : whN b < 18446744073709551616 := by
  unfold whN
  have Fb : b % 4503599627370496 < 4503599627370496 := Nat.mod_lt _ (by omega)
  generalize b / 4503599627370496 % 2048 = E at *
  generalize b % 4503599627370496 = F at *
  split
  · omega
  · split
    · have p : 2 ^ (E - 1075) ≤ 2 ^ 11 := Nat.pow_le_pow_right (by omega) (by omega)
      have p' : (2 : Nat) ^ 11 = 2048 := by decide
      have : (4503599627370496 + F) * 2 ^ (E - 1075) ≤ (4503599627370496 + F) * 2048 := Nat.mul_le_mul_left _ (by omega)
      omega
    · split
      · omega
      · unfold rhe
        have := Nat.div_le_self (4503599627370496 + F) (2 ^ (1075 - E))
        split <;> omega
theorem wh_great (b : Nat) (h : 1086 < b / 4503599627370496 % 2048) : 18446744073709551616 ≤ whN b := by
  unfold whN
  generalize b / 4503599627370496 % 2048 = E at *
  generalize b % 4503599627370496 = F at *
  rw [if_neg (by omega), if_pos (by omega)]
  have p : 2 ^ 12 ≤ 2 ^ (E - 1075) := Nat.pow_le_pow_right (by omega) (by omega)
  have p' : (2 : Nat) ^ 12 = 4096 := by decide
  have : (4503599627370496 + F) * 4096 ≤ (4503599627370496 + F) * 2 ^ (E - 1075) := Nat.mul_le_mul_left _ (by omega)
  omega
theorem same_below {w w' : World} (h : w' = w) : Below w.heap.size w w' := by subst h; exact Below.refl _ _
theorem wholeR_yes (b : Nat) (h : b < 18446744073709551616) (g : whN b < 18446744073709551616) (w : World) :
    Calls Tryz.prog 171 #[.int .u64 b] w fun e w' => e = .returned (.tuple #[.int .u64 (whN b : Int), .bool (b / 9223372036854775808 == 1), .bool true]) ∧ Below w.heap.size w w' := by
  have e86 : b / 4503599627370496 % 2048 ≤ 1086 := by
    apply Classical.byContradiction
    intro q
    have := wh_great b (by omega)
    omega
  by_cases c0 : b / 4503599627370496 % 2048 = 0
  · exact (wholeR_0 b h c0 w).mono fun e w' q => ⟨q.1, same_below q.2⟩
  by_cases c1 : 54 < 1075 - b / 4503599627370496 % 2048
  · exact (wholeR_far b h c0 c1 w).mono fun e w' q => ⟨q.1, same_below q.2⟩
  by_cases c2 : 1075 ≤ b / 4503599627370496 % 2048
  · exact (wholeR_hi b h c2 e86 w).mono fun e w' q => ⟨q.1, same_below q.2⟩
  have wz : whN b = rhe (4503599627370496 + b % 4503599627370496) (1075 - b / 4503599627370496 % 2048) := by
    unfold whN
    rw [if_neg c0, if_neg c2, if_neg c1]
  rw [wz]
  have Fb : b % 4503599627370496 < 4503599627370496 := Nat.mod_lt _ (by omega)
  refine whole_mid (b % 4503599627370496) (1075 - b / 4503599627370496 % 2048) Fb (by omega) (by omega) b _ w ?_ (andF b h) ?_
  · rw [andE b h]; omega
  · rw [Bool.eq_iff_iff]; simp; omega
theorem wholeR_no (b : Nat) (h : b < 18446744073709551616) (f : finB b = true) (g : 18446744073709551616 ≤ whN b) (w : World) :
    Calls Tryz.prog 171 #[.int .u64 b] w fun e w' => (∃ n : Int, e = .returned (.tuple #[.int .u64 n, .bool (b / 9223372036854775808 == 1), .bool false])) ∧ Below w.heap.size w w' := by
  have e86 : 1086 < b / 4503599627370496 % 2048 := by
    apply Classical.byContradiction
    intro q
    have := wh_small b (by omega)
    omega
  have ff := (fin_iff b).1 f
  have Fb : b % 4503599627370496 < 4503599627370496 := Nat.mod_lt _ (by omega)
  refine whole_big (b % 4503599627370496) (b / 4503599627370496 % 2048 - 1075) Fb (by omega) (by omega) b _ w ?_ (andF b h) ?_
  · rw [andE b h]; omega
  · rw [Bool.eq_iff_iff]; simp; omega
theorem andI (b : Nat) (h : b < 18446744073709551616) : bits BinOp.and IntKind.u64 (b : Int) 9218868437227405312 = ((b / 4503599627370496 % 2048 * 4503599627370496 : Nat) : Int) := by
  have e := bits_and_u64_nat b 9218868437227405312 h (by omega)
  have d : (b &&& 9218868437227405312) / 2 ^ 52 = b / 4503599627370496 % 2048 := by
    have := Nat.shiftRight_and_distrib (a := b) (b := 9218868437227405312) (i := 52)
    rw [Nat.shiftRight_eq_div_pow, Nat.shiftRight_eq_div_pow, Nat.shiftRight_eq_div_pow] at this
    rw [this]
    exact Nat.and_two_pow_sub_one_eq_mod _ 11
  have r : (b &&& 9218868437227405312) % 2 ^ 52 = 0 := by
    rw [Nat.and_mod_two_pow]
    simp
  have : b &&& 9218868437227405312 = b / 4503599627370496 % 2048 * 4503599627370496 := by
    have p' : (2 : Nat) ^ 52 = 4503599627370496 := by decide
    rw [p'] at d r
    omega
  rw [this] at e
  exact e
end Go.Proofs.YtpaibmganlaaeaaGreatDoor
