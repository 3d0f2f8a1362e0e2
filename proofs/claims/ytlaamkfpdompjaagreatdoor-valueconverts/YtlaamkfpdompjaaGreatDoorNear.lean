/- What the value package's nearest answers; no statement of the seat is proved here. -/
import Derived.Test.YtlaamkfpdompjaaGreatDoorFitted
namespace Go.Proofs.YtlaamkfpdompjaaGreatDoor
set_option linter.unusedVariables false
open Go.RowKit
/-- The nearest word to a number below 0 is the other sign's of its size. -/
theorem cut_even (a b : Bool) (n d : Nat) : Ieee.Toward.even.cut a n d = Ieee.Toward.even.cut b n d := rfl
theorem weight_f64 : FloatKind.f64.format.signWeight = 9223372036854775808 := by
  show 2 ^ (11 + 52) = 9223372036854775808
  decide
theorem inf_f64 : FloatKind.f64.format.infRung = 9218868437227405312 := by
  show (2 ^ 11 - 1) * 2 ^ 52 = 9218868437227405312
  decide
/-- The rung of a number's size. -/
def rungN (m : Nat) : Nat :=
  min (((max ((0 : Int) + m.log2 - FloatKind.f64.format.fractionBits) FloatKind.f64.format.leastPlace) - FloatKind.f64.format.leastPlace).toNat * FloatKind.f64.format.binade +
    Ieee.Toward.even.cut false (m <<< ((0 : Int) - (max ((0 : Int) + m.log2 - FloatKind.f64.format.fractionBits) FloatKind.f64.format.leastPlace)).toNat) ((max ((0 : Int) + m.log2 - FloatKind.f64.format.fractionBits) FloatKind.f64.format.leastPlace) - 0).toNat) FloatKind.f64.format.infRung
theorem nearest_word (neg : Bool) (m : Nat) (h : ¬ m = 0) : FloatKind.f64.format.nearest neg m 0 = FloatKind.f64.format.word neg (rungN m) := by
  unfold Ieee.Format.nearest rungN
  rw [if_neg h]
  dsimp only
  rw [cut_even neg false]
theorem rungN_le (m : Nat) : rungN m ≤ FloatKind.f64.format.infRung := Nat.min_le_right _ _
theorem nearest_sign (m : Nat) (h : 0 < m) : FloatKind.f64.format.nearest true m 0 = 9223372036854775808 + FloatKind.f64.format.nearest false m 0 := by
  rw [nearest_word true m (by omega), nearest_word false m (by omega)]
  generalize rungN m = r
  simp only [Ieee.Format.word, weight_f64, if_true, Bool.false_eq_true, if_false]
theorem nearest_lt (m : Nat) (h : 0 < m) : FloatKind.f64.format.nearest false m 0 < 9223372036854775808 := by
  rw [nearest_word false m (by omega)]
  have := rungN_le m
  rw [inf_f64] at this
  generalize rungN m = r at *
  simp only [Ieee.Format.word, Bool.false_eq_true, if_false]
  omega
theorem xor_top (r : Nat) (h : r < 9223372036854775808) : r ^^^ 9223372036854775808 = 9223372036854775808 + r := by
  have : (2 ^ 63 ^^^ r : Nat) = 2 ^ 63 + r := by
    have := Nat.two_pow_add_eq_or_of_lt (i := 63) (b := r) (by simpa using h) 1
    rw [Nat.mul_one] at this
    rw [this]
    apply Nat.eq_of_testBit_eq
    intro i
    rw [Nat.testBit_xor, Nat.testBit_or, Nat.testBit_two_pow]
    by_cases c : 63 = i
    · subst c
      have : r.testBit 63 = false := Nat.testBit_lt_two_pow (by simpa using h)
      simp [this]
    · simp [c]
  rw [Nat.xor_comm]
  exact this
theorem float_neg (n : Int) (h : n < 0) : Op.negFloat .f64 (floatOfInt .f64 (n.natAbs : Int)) = floatOfInt .f64 n := by
  show (FloatKind.f64.format.nearest (decide ((n.natAbs : Int) < 0)) (n.natAbs : Int).natAbs 0) ^^^ 9223372036854775808 = FloatKind.f64.format.nearest (decide (n < 0)) n.natAbs 0
  have e1 : decide ((n.natAbs : Int) < 0) = false := by simp
  have e2 : decide (n < 0) = true := by simpa using h
  rw [e1, e2, Int.natAbs_natCast, nearest_sign _ (by omega), xor_top _ (nearest_lt _ (by omega))]
set_option maxHeartbeats 400000 in
theorem nearest_of (n : Int) (w : World) : Calls Tryz.prog 32 #[NB n] w fun e w' => e = .returned (.float .f64 (floatOfInt .f64 n)) ∧ Below w.heap.size w w' := by
  by_cases h : n < 0
  · rw [NB_raw_neg h, ← float_neg n h]
    have hn : ∀ (m : Nat) w, (Op.unary UnOp.neg (.float .f64 m)).run Tryz.prog w = .ok (.float .f64 (Op.negFloat .f64 m)) w := fun _ _ => rfl
    go_enter Tryz.func32, Tryz.ntmps32
    go_wp2
    go_ret
    exact ⟨rfl, (Below.refl _ _).alloc (Nat.le_refl _) _⟩
  · rw [NB_raw_pos (by omega)]
    go_enter Tryz.func32, Tryz.ntmps32
    go_wp2
    go_ret
    exact ⟨rfl, (Below.refl _ _).alloc (Nat.le_refl _) _⟩
end Go.Proofs.YtlaamkfpdompjaaGreatDoor
