/- Digits of base 16, small and great letters: no program; no statement of the seat is proved here. -/
import Derived.Test.YtopkdenefoifjaaDoorBase
import Derived.Lib.Case
namespace Go.Proofs.YtopkdenefoifjaaDoor
set_option linter.unusedVariables false
/-- A digit with a small letter. -/
def hxd (d : Nat) : UInt8 := if d < 10 then UInt8.ofNat (48 + d) else UInt8.ofNat (87 + d)
/-- A digit with a great letter. -/
def hxD (d : Nat) : UInt8 := if d < 10 then UInt8.ofNat (48 + d) else UInt8.ofNat (55 + d)
/-- A number's digits, without noughts ahead. -/
def hexDig (u : Nat) : List UInt8 := if u < 16 then [hxd u] else hexDig (u / 16) ++ [hxd (u % 16)]
termination_by u
/-- The last i digits, with great letters. -/
def hexLow : Nat → Nat → List UInt8
  | 0, _ => []
  | i + 1, n => hxD (n / 16 ^ i % 16) :: hexLow i n
theorem hexLow_len : ∀ (i n : Nat), (hexLow i n).length = i
  | 0, _ => rfl
  | i + 1, n => by simp [hexLow, hexLow_len i n]
theorem hexLow_snoc : ∀ (i n : Nat), hexLow (i + 1) n = hexLow i (n / 16) ++ [hxD (n % 16)]
  | 0, n => by simp [hexLow]
  | i + 1, n => by
    rw [hexLow, hexLow_snoc i n, hexLow]
    rw [Nat.pow_succ, Nat.mul_comm (16 ^ i) 16, ← Nat.div_div_eq_div_mul]
    rfl
theorem hexLow_pad (i n : Nat) (h : n < 16 ^ i) : ∀ k, hexLow (i + k) n = List.replicate k 48 ++ hexLow i n
  | 0 => by simp
  | k + 1 => by
    rw [show i + (k + 1) = (i + k) + 1 from rfl, hexLow, hexLow_pad i n h k]
    have : n / 16 ^ (i + k) = 0 := Nat.div_eq_of_lt (Nat.lt_of_lt_of_le h (Nat.pow_le_pow_right (by omega) (by omega)))
    rw [this]
    simp [hxD, List.replicate_succ]
theorem upB_hxd (d : Nat) (h : d < 16) : Lib.upperB (hxd d) = hxD d := by
  have : ∀ d : Fin 16, Lib.upperB (hxd d.val) = hxD d.val := by decide
  exact this ⟨d, h⟩
theorem hxd_low (d : Nat) (h : d < 16) : (hxd d).toNat < 128 := by
  have : ∀ d : Fin 16, (hxd d.val).toNat < 128 := by decide
  exact this ⟨d, h⟩
theorem hexDig_low (u : Nat) : ∀ c ∈ hexDig u, c.toNat < 128 := by
  induction u using Nat.strongRecOn with
  | ind u ih =>
    rw [hexDig]
    by_cases h : u < 16
    · rw [if_pos h]; intro c hc; simp at hc; subst hc; exact hxd_low u h
    · rw [if_neg h]; intro c hc
      simp at hc
      rcases hc with hc | hc
      · exact ih (u / 16) (by omega) c hc
      · subst hc; exact hxd_low _ (by omega)
theorem hexDig_len (u : Nat) : 1 ≤ (hexDig u).length ∧ u < 16 ^ (hexDig u).length ∧ (u ≠ 0 → 16 ^ ((hexDig u).length - 1) ≤ u) ∧ (u = 0 → (hexDig u).length = 1) := by
  induction u using Nat.strongRecOn with
  | ind u ih =>
    rw [hexDig]
    by_cases h : u < 16
    · rw [if_pos h]; simp; omega
    · rw [if_neg h]
      obtain ⟨a, b, c, d⟩ := ih (u / 16) (by omega)
      have c := c (by omega)
      rw [List.length_append, List.length_singleton]
      generalize (hexDig (u / 16)).length = l at *
      simp
      refine ⟨?_, ?_, by omega⟩
      · rw [Nat.pow_succ]; omega
      · intro _
        obtain ⟨m, rfl⟩ : ∃ m, l = m + 1 := ⟨l - 1, by omega⟩
        simp at c
        rw [Nat.pow_succ]; omega
theorem hexDig_up (u : Nat) : (hexDig u).map Lib.upperB = hexLow (hexDig u).length u := by
  induction u using Nat.strongRecOn with
  | ind u ih =>
    rw [hexDig]
    by_cases h : u < 16
    · rw [if_pos h]; simp [hexLow, upB_hxd u h, Nat.mod_eq_of_lt h]
    · rw [if_neg h]
      simp only [List.map_append, List.length_append, List.length_cons, List.length_nil, List.map_cons, List.map_nil]
      rw [ih (u / 16) (by omega), upB_hxd _ (by omega), hexLow_snoc]
theorem hexDig_le (u : Nat) (h : u < 18446744073709551616) : (hexDig u).length ≤ 16 := by
  obtain ⟨a, b, c, d⟩ := hexDig_len u
  by_cases z : u = 0
  · rw [d z]; omega
  · have c := c z
    by_cases g : (hexDig u).length ≤ 16
    · exact g
    · have : 16 ^ 16 ≤ 16 ^ ((hexDig u).length - 1) := Nat.pow_le_pow_right (by omega) (by omega)
      omega
/-- The text of a number in digits 0 to F, at least so many. -/
def hexS (u least : Nat) : ByteArray := ⟨(hexLow (max least (hexDig u).length) u).toArray⟩
theorem hexS_size (u least : Nat) : (hexS u least).size = max least (hexDig u).length := by
  unfold hexS; show (hexLow _ u).toArray.size = _; simp [hexLow_len]
/-- What the document's loop has when it ends. -/
theorem hexLow_end (u i least : Nat) (hl : 1 ≤ least) (hi : least ≤ i) (hz : u / 16 ^ i = 0) (hm : ∀ j, j < i → u / 16 ^ j ≠ 0 ∨ j < least) : (⟨(hexLow i u).toArray⟩ : ByteArray) = hexS u least := by
  obtain ⟨a, b, c, d⟩ := hexDig_len u
  have : i = max least (hexDig u).length := by
    have h1 : (hexDig u).length ≤ i := by
      by_cases z : u = 0
      · rw [d z]; omega
      · have c := c z
        by_cases g : (hexDig u).length ≤ i
        · exact g
        · have : 16 ^ i ≤ 16 ^ ((hexDig u).length - 1) := Nat.pow_le_pow_right (by omega) (by omega)
          have : u < 16 ^ i := (Nat.div_eq_zero_iff.mp hz).resolve_left (by have : 0 < 16 ^ i := Nat.pow_pos (by omega); omega)
          omega
    by_cases g : i = max least (hexDig u).length
    · exact g
    · have := hm (max least (hexDig u).length) (by omega)
      rcases this with h | h
      · exfalso; apply h
        exact Nat.div_eq_of_lt (Nat.lt_of_lt_of_le b (Nat.pow_le_pow_right (by omega) (by omega)))
      · omega
  unfold hexS
  rw [this]
end Go.Proofs.YtopkdenefoifjaaDoor
