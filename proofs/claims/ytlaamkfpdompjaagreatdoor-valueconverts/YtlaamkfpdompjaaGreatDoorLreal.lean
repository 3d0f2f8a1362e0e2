/- What value.Lreal answers, for every float; and facts about bits turned; no statement of the seat is proved here. -/
import Derived.Test.YtlaamkfpdompjaaGreatDoorMade
namespace Go.Proofs.YtlaamkfpdompjaaGreatDoor
set_option linter.unusedVariables false
open Go.RowKit
theorem call_bits (n : Nat) (w : World) : (callFunc 55 #[.float .f64 n]).run Tryz.prog w = .ok (.value (.int .u64 n)) w :=
  (run_callFunc_extern (e := Extern.MathFloatBits.float64bits) Tryz.func55 (by kernel_rfl) (by kernel_rfl) (by kernel_rfl) (by kernel_rfl) _ w).trans rfl
/-- The bits of the LREAL of a float. -/
def lrealB (n : Nat) : Int := if fnan n then 9221120237041090561 else n
theorem lrealB_t {n : Nat} (h : fnan n = true) : lrealB n = 9221120237041090561 := by simp [lrealB, h]
theorem lrealB_f {n : Nat} (h : fnan n = false) : lrealB n = n := by simp [lrealB, h]
set_option maxHeartbeats 400000 in
theorem Lreal_of (n : Nat) (w : World) :
    Calls Tryz.prog 31 #[.float .f64 n] w fun e w' => e = .returned (V 18 (lrealB n) E0) ∧ Below w.heap.size w w' := by
  have hx := call_bits
  cases h : fnan n
  · have g : (FloatKind.f64.format.order n n != some .eq) = false := by rw [order_self_ne, h]
    rw [lrealB_f h]
    clear h
    go_enter Tryz.func31, Tryz.ntmps31
    go_wp2
    exact bodyPost_ret (v := V 18 n E0) (by simp [results, Tryz.results31, go_sem]) rfl ⟨rfl, (Below.refl _ _).alloc (Nat.le_refl _) _⟩
  · have g : (FloatKind.f64.format.order n n != some .eq) = true := by rw [order_self_ne, h]
    rw [lrealB_t h]
    clear h
    go_enter Tryz.func31, Tryz.ntmps31
    go_wp2
    exact bodyPost_ret (v := V 18 9221120237041090561 E0) (by simp [results, Tryz.results31, go_sem]) rfl ⟨rfl, (Below.refl _ _).alloc (Nat.le_refl _) _⟩
theorem nat_xor_mask (x w : Nat) (h : x < 2 ^ w) : x ^^^ (2 ^ w - 1) = 2 ^ w - (x + 1) := by
  apply Nat.eq_of_testBit_eq
  intro i
  rw [Nat.testBit_xor, Nat.testBit_two_pow_sub_one, Nat.testBit_two_pow_sub_succ h]
  by_cases c : i < w
  · simp [c]
  · have : x.testBit i = false := Nat.testBit_lt_two_pow (Nat.lt_of_lt_of_le h (Nat.pow_le_pow_right (by omega) (by omega)))
    simp [c, this]
/-- All bits of a kind turned. -/
def notB (k b : Int) : Int := (if k = 1 then 1 else if k = 10 then 255 else if k = 11 then 65535 else if k = 12 then 4294967295 else 18446744073709551615) - b
theorem xor_mask (w : Nat) (m b : Int) (e : m = ((2 ^ w - 1 : Nat) : Int)) (hw : w ≤ 64) (h0 : 0 ≤ b) (h1 : b ≤ m) : bits .xor .u64 b m = m - b := by
  have hp : 2 ^ w ≤ 2 ^ 64 := Nat.pow_le_pow_right (by omega) hw
  have hq : 0 < 2 ^ w := Nat.two_pow_pos w
  have h64 : (2 : Nat) ^ 64 = 18446744073709551616 := by decide
  rw [u64_xor b m h0 (by omega) (by omega) (by omega)]
  have e2 : m.toNat = 2 ^ w - 1 := by omega
  rw [e2, nat_xor_mask b.toNat w (by omega)]
  omega
/-- The bits of a float with the other sign. -/
def flipN (b : Int) : Nat := b.toNat ^^^ 9223372036854775808
theorem negFloat_flip (b : Int) : Op.negFloat .f64 b.toNat = flipN b := rfl
end Go.Proofs.YtlaamkfpdompjaaGreatDoor
