/- What a float rounds to, what it is against 0, and what is infinite: no program; no statement of the seat is proved here. -/
import Derived.Test.YtlaamkfpdompjaaGreatDoorFlR
namespace Go.Proofs.YtlaamkfpdompjaaGreatDoor
set_option linter.unusedVariables false
/-- Is a float finite? -/
def finB (x : Nat) : Bool := !(x / 4503599627370496 % 2048 == 2047)
/-- The whole number nearest to a float. -/
def flN (x : Nat) : Int := if x / 9223372036854775808 % 2 = 1 then -(whN x : Int) else (whN x : Int)
theorem fin_iff (x : Nat) : finB x = true ↔ ¬ x / 4503599627370496 % 2048 = 2047 := by unfold finB; simp
theorem fin_not (x : Nat) : finB x = false ↔ x / 4503599627370496 % 2048 = 2047 := by unfold finB; simp
theorem read_fin (x : Nat) (h : finB x = true) : ∃ m p, Ieee.double.read x = .number (x / 9223372036854775808 % 2 == 1) m p ∧ -1074 ≤ p ∧ (m = 0 ↔ x % 9223372036854775808 = 0) := by
  rw [fin_iff] at h
  by_cases s : x % 9223372036854775808 < 4503599627370496
  · exact ⟨_, _, read_sub x s, by omega, Iff.rfl⟩
  · exact ⟨_, _, read_norm x (by omega) (by omega), by omega, by omega⟩
theorem order_zero (x : Nat) (s : Bool) (m : Nat) (p : Int) (h : Ieee.double.read x = .number s m p) (hp : -1074 ≤ p) :
    FloatKind.f64.format.order x 0 = some (compare (Ieee.signed s m (p + 1074).toNat) 0) := by
  have o : FloatKind.f64.format.order x 0 = (Ieee.double.read x).order (Ieee.double.read 0) := rfl
  rw [o, h, read_0]
  have oo : (Ieee.Datum.number s m p).order (.number false 0 (-1074)) = some (compare (Ieee.signed s m (p - min p (-1074)).toNat) (Ieee.signed false 0 (-1074 - min p (-1074)).toNat)) := rfl
  rw [oo, show min p (-1074) = -1074 by omega]
  have z : Ieee.signed false 0 (-1074 - (-1074 : Int)).toNat = 0 := by decide
  rw [z, show p - -1074 = p + 1074 by omega]
theorem signed_zero (s : Bool) (m u : Nat) : Ieee.signed s m u = (if s = true then -((m * 2 ^ u : Nat) : Int) else ((m * 2 ^ u : Nat) : Int)) := by
  cases s <;> simp [Ieee.signed, Nat.shiftLeft_eq]
/-- Of finite floats just the two noughts equal 0. -/
theorem ord_eq (x : Nat) (h : finB x = true) : (FloatKind.f64.format.order x 0 == some .eq) = (x % 9223372036854775808 == 0) := by
  obtain ⟨m, p, r, hp, z⟩ := read_fin x h
  rw [order_zero x _ m p r hp, signed_zero]
  have pw : 0 < 2 ^ (p + 1074).toNat := Nat.pow_pos (by omega)
  by_cases m0 : m = 0
  · have z0 := z.1 m0
    subst m0
    rw [z0]
    simp [compare, compareOfLessAndEq]
  · have z0 : ¬ x % 9223372036854775808 = 0 := fun q => m0 (z.2 q)
    have mp : 0 < m * 2 ^ (p + 1074).toNat := Nat.mul_pos (by omega) pw
    have e : (x % 9223372036854775808 == 0) = false := by simpa using z0
    rw [e]
    generalize m * 2 ^ (p + 1074).toNat = q at *
    split
    · rw [cmp_lt _ _ (by omega)]; rfl
    · rw [cmp_gt _ _ (by omega)]; rfl
/-- Those with a sign that are no nought lie below 0. -/
theorem ord_lt (x : Nat) (h : finB x = true) : (FloatKind.f64.format.order x 0 == some .lt) = (x / 9223372036854775808 % 2 == 1 && !(x % 9223372036854775808 == 0)) := by
  obtain ⟨m, p, r, hp, z⟩ := read_fin x h
  rw [order_zero x _ m p r hp, signed_zero]
  have pw : 0 < 2 ^ (p + 1074).toNat := Nat.pow_pos (by omega)
  generalize (x / 9223372036854775808 % 2 == 1) = s at *
  by_cases m0 : m = 0
  · have z0 := z.1 m0
    subst m0
    rw [z0]
    simp [compare, compareOfLessAndEq]
  · have z0 : ¬ x % 9223372036854775808 = 0 := fun q => m0 (z.2 q)
    have mp : 0 < m * 2 ^ (p + 1074).toNat := Nat.mul_pos (by omega) pw
    have e : (x % 9223372036854775808 == 0) = false := by simpa using z0
    rw [e]
    generalize m * 2 ^ (p + 1074).toNat = q at *
    cases s
    · rw [if_neg (by decide), cmp_gt _ _ (by omega)]; rfl
    · rw [if_pos rfl, cmp_lt _ _ (by omega)]; rfl
/-- Infinities are no nought. -/
theorem ord_inf (x : Nat) (h : finB x = false) (n : fnan x = false) : FloatKind.f64.format.order x 0 = some (if x / 9223372036854775808 % 2 == 1 then .lt else .gt) ∧ x % 9223372036854775808 = 9218868437227405312 := by
  rw [fin_not] at h
  have e : x % 9223372036854775808 = 9218868437227405312 := by
    unfold fnan at n
    have := of_decide_eq_false n
    omega
  refine ⟨?_, e⟩
  have o : FloatKind.f64.format.order x 0 = (Ieee.double.read x).order (Ieee.double.read 0) := rfl
  have r : Ieee.double.read x = .infinity (x / 9223372036854775808 % 2 == 1) := by
    unfold Ieee.Format.read
    have e1 : Ieee.double.signWeight = 9223372036854775808 := by decide
    have e2 : Ieee.double.binade = 4503599627370496 := by decide
    have e4 : Ieee.double.infRung = 9218868437227405312 := by decide
    simp only [e1, e2, e4]
    rw [if_neg (by omega), if_neg (by omega), if_pos e]
  rw [o, r, read_0]
  rfl
theorem int_inf (x : Nat) (h : finB x = false) (n : fnan x = false) : (FloatKind.f64.decode x).integral .even = .infinity (x / 9223372036854775808 % 2 == 1) := by
  have e := (ord_inf x h n).2
  have r : Ieee.double.read x = .infinity (x / 9223372036854775808 % 2 == 1) := by
    unfold Ieee.Format.read
    have e1 : Ieee.double.signWeight = 9223372036854775808 := by decide
    have e2 : Ieee.double.binade = 4503599627370496 := by decide
    have e4 : Ieee.double.infRung = 9218868437227405312 := by decide
    simp only [e1, e2, e4]
    rw [if_neg (by omega), if_neg (by omega), if_pos e]
  show (Ieee.double.read x).integral .even = _
  rw [r]
  rfl
theorem nan_fin (x : Nat) (h : finB x = true) : fnan x = false := by
  rw [fin_iff] at h
  unfold fnan
  exact decide_eq_false (by omega)
end Go.Proofs.YtlaamkfpdompjaaGreatDoor
