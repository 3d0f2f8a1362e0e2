/- How a statement whose order Go leaves open is walked once where its calls only make memory; no statement of the seat is proved here. -/
import Derived.Test.YtpaibmganlaaeaaGreatDoorRows
import Derived.WalkKit
import Derived.WalkSpells
import Derived.WalkLawsBesides
import Derived.Below
import Derived.Deep.WholeRow
import Derived.Laws.CopyOwn
import Derived.BigQuiet
namespace Go.Proofs.YtpaibmganlaaeaaGreatDoor
set_option linter.unusedVariables false
open Go.RowKit
theorem ret_bool {a b : Bool} (h : a = b) : Ending.returned (.bool a) = .returned (.bool b) := by rw [h]
theorem ret_int {k : IntKind} {a b : Int} (h : a = b) : Ending.returned (.int k a) = .returned (.int k b) := by rw [h]
/-- Are these bits of a float64 no number? -/
def fnan (n : Nat) : Bool := decide (9218868437227405312 < n % 9223372036854775808)
/-- What the bits of a float64 are, by their rung. -/
theorem read_cases (n : Nat) : (∃ m p, FloatKind.f64.format.read n = .number (n / 9223372036854775808 % 2 == 1) m p ∧ n % 9223372036854775808 < 9218868437227405312) ∨
    (FloatKind.f64.format.read n = .infinity (n / 9223372036854775808 % 2 == 1) ∧ n % 9223372036854775808 = 9218868437227405312) ∨
    (∃ f, FloatKind.f64.format.read n = .nan (n / 9223372036854775808 % 2 == 1) f ∧ 9218868437227405312 < n % 9223372036854775808) := by
  have e : FloatKind.f64.format.read n = (if n % 9223372036854775808 < 4503599627370496 then
        Ieee.Datum.number (n / 9223372036854775808 % 2 == 1) (n % 9223372036854775808) (Ieee.Format.leastPlace Ieee.double)
      else if n % 9223372036854775808 < 9218868437227405312 then
          Ieee.Datum.number (n / 9223372036854775808 % 2 == 1) (4503599627370496 + n % 9223372036854775808 % 4503599627370496)
            (Ieee.Format.leastPlace Ieee.double + ↑(n % 9223372036854775808 / 4503599627370496 - 1))
        else
          if n % 9223372036854775808 = 9218868437227405312 then Ieee.Datum.infinity (n / 9223372036854775808 % 2 == 1)
          else Ieee.Datum.nan (n / 9223372036854775808 % 2 == 1) (n % 9223372036854775808 - 9218868437227405312)) := rfl
  rw [e]
  by_cases h1 : n % 9223372036854775808 < 4503599627370496
  · rw [if_pos h1]; exact .inl ⟨_, _, rfl, by omega⟩
  rw [if_neg h1]
  by_cases h2 : n % 9223372036854775808 < 9218868437227405312
  · rw [if_pos h2]; exact .inl ⟨_, _, rfl, h2⟩
  rw [if_neg h2]
  by_cases h3 : n % 9223372036854775808 = 9218868437227405312
  · rw [if_pos h3]; exact .inr (.inl ⟨rfl, h3⟩)
  rw [if_neg h3]
  exact .inr (.inr ⟨_, rfl, by omega⟩)
theorem compare_self_int (a : Int) : compare a a = .eq := by simp [compare, compareOfLessAndEq]
theorem compare_self_nat (a : Nat) : compare a a = .eq := by simp
theorem order_self (n : Nat) : (FloatKind.f64.format.order n n == some .eq) = !fnan n := by
  unfold Ieee.Format.order fnan
  rcases read_cases n with ⟨m, p, h, g⟩ | ⟨h, g⟩ | ⟨f, h, g⟩
  · rw [h]; simp [Ieee.Datum.order]; omega
  · rw [h]; simp [Ieee.Datum.order]; omega
  · rw [h]; simp [Ieee.Datum.order]; omega
theorem order_self_ne (n : Nat) : (FloatKind.f64.format.order n n != some .eq) = fnan n := by
  rw [bne, order_self]; simp
/-- A signed kind's bits of that half width may be. -/
def sg (h b : Int) : Bool := decide (b < h ∨ 18446744073709551616 - h ≤ b)
/-- May a kind without a text have such bits? -/
def mayW (k b : Int) : Bool :=
  if k = 1 then decide (b ≤ 1) else if k = 2 then sg 128 b else if k = 3 then sg 32768 b else if k = 4 then sg 2147483648 b
  else if k = 5 ∨ k = 9 ∨ k = 13 ∨ k = 14 then true
  else if k = 6 ∨ k = 10 then decide (b < 256) else if k = 7 ∨ k = 11 then decide (b < 65536) else if k = 8 ∨ k = 12 then decide (b < 4294967296)
  else if k = 15 then decide (b < 7258118400000000000 ∧ b % 86400000000000 = 0) else if k = 16 then decide (b < 86400000000000)
  else if k = 17 then decide (b < 7258118400000000000) else if k = 18 then decide (b = 9221120237041090561 ∨ fnan b.toNat = false) else false
/-- The kinds, one by one. -/
theorem kinds (k : Int) (hk : 0 ≤ k ∧ k < 256) : k = 1 ∨ k = 2 ∨ k = 3 ∨ k = 4 ∨ k = 5 ∨ k = 6 ∨ k = 7 ∨ k = 8 ∨ k = 9 ∨ k = 10 ∨ k = 11 ∨ k = 12 ∨ k = 13 ∨ k = 14 ∨ k = 15 ∨ k = 16 ∨ k = 17 ∨ k = 18 ∨ k = 19 ∨ k = 0 ∨ 19 < k := by omega
theorem fw_sg (h b : Int) (h0 : 0 ≤ b) (h1 : b < 18446744073709551616) (g0 : 0 < h) (g1 : h ≤ 9223372036854775808) : (wrap64 b / h == 0 || wrap64 b / h == -1) = sg h b := by
  rw [Bool.eq_iff_iff]
  have e1 : wrap64 b / h = 0 ↔ 0 ≤ wrap64 b ∧ wrap64 b < h := by
    constructor
    · intro e
      have := Int.emod_nonneg (wrap64 b) (b := h) (by omega)
      have := Int.emod_lt_of_pos (wrap64 b) g0
      have := Int.emod_add_mul_ediv (wrap64 b) h
      rw [e] at this; omega
    · rintro ⟨a, c⟩; exact Int.ediv_eq_zero_of_lt a c
  have e2 : wrap64 b / h = -1 ↔ -h ≤ wrap64 b ∧ wrap64 b < 0 := by
    constructor
    · intro e
      have := Int.emod_nonneg (wrap64 b) (b := h) (by omega)
      have := Int.emod_lt_of_pos (wrap64 b) g0
      have := Int.emod_add_mul_ediv (wrap64 b) h
      rw [e] at this; omega
    · rintro ⟨a, c⟩
      have := Int.add_mul_ediv_right (wrap64 b) 1 (c := h) (by omega)
      have : (wrap64 b + 1 * h) / h = 0 := Int.ediv_eq_zero_of_lt (by omega) (by omega)
      omega
  simp only [Bool.or_eq_true, beq_iff_eq, e1, e2, sg, decide_eq_true_eq]
  unfold wrap64
  omega
theorem and_high (n : Nat) : n &&& 9218868437227405312 = n / 4503599627370496 % 2048 * 4503599627370496 := by
  have e : (9218868437227405312 : Nat) = 2047 <<< 52 := by decide
  have h : n &&& (2047 <<< 52) = ((n >>> 52) &&& 2047) <<< 52 := by
    apply Nat.eq_of_testBit_eq
    intro i
    simp only [Nat.testBit_and, Nat.testBit_shiftLeft, Nat.testBit_shiftRight]
    by_cases c : 52 ≤ i
    · simp [c]
    · simp [c]
  rw [e, h, Nat.shiftLeft_eq, Nat.shiftRight_eq_div_pow, show (2047 : Nat) = 2 ^ 11 - 1 from rfl, Nat.and_two_pow_sub_one_eq_mod]
theorem and_low (n : Nat) : n &&& 4503599627370495 = n % 4503599627370496 := Nat.and_two_pow_sub_one_eq_mod n 52
theorem bits_high (b : Int) (h0 : 0 ≤ b) (h1 : b < 18446744073709551616) : bits .and .u64 b 9218868437227405312 = ((b.toNat / 4503599627370496 % 2048 * 4503599627370496 : Nat) : Int) := by
  rw [u64_and b _ h0 h1 (by omega) (by omega)]
  exact congrArg _ (and_high b.toNat)
theorem bits_low (b : Int) (h0 : 0 ≤ b) (h1 : b < 18446744073709551616) : bits .and .u64 b 4503599627370495 = ((b.toNat % 4503599627370496 : Nat) : Int) := by
  rw [u64_and b _ h0 h1 (by omega) (by omega)]
  exact congrArg _ (and_low b.toNat)
theorem fnan_hi (b : Int) (h0 : 0 ≤ b) (h1 : b < 18446744073709551616) (c : bits .and .u64 b 9218868437227405312 = 9218868437227405312) : fnan b.toNat = (bits .and .u64 b 4503599627370495 != 0) := by
  rw [bits_high b h0 h1] at c
  rw [bits_low b h0 h1, Bool.eq_iff_iff]
  simp only [fnan, decide_eq_true_eq, bne_iff_ne, ne_eq]
  generalize b.toNat = n at *
  omega
theorem fnan_lo (b : Int) (h0 : 0 ≤ b) (h1 : b < 18446744073709551616) (c : ¬ bits .and .u64 b 9218868437227405312 = 9218868437227405312) : fnan b.toNat = false := by
  rw [bits_high b h0 h1] at c
  simp only [fnan, decide_eq_false_iff_not]
  generalize b.toNat = n at *
  omega
end Go.Proofs.YtpaibmganlaaeaaGreatDoor
namespace Go.Proofs.YtpaibmganlaaeaaGreatDoor
set_option linter.unusedVariables false
open Go.RowKit
/-- A block as a value: its name, its variables' names and kinds, how many are inputs and outputs, what a step does. -/
abbrev BV (nm names ks : ByteArray) (ins outs : Int) (fn : Value) : Value := .agg #[.string nm, .string names, .string ks, .int .i64 ins, .int .i64 outs, fn]
/-- A function of the program as a value. -/
abbrev FN (f : Nat) : Value := .func (.func f) #[] #[]
abbrev bk0 : Value := BV ⟨#[]⟩ ⟨#[]⟩ ⟨#[]⟩ 0 0 .nilFunc
def zCells : Array Value := #[.string ⟨#[]⟩, .string ⟨#[]⟩, .string ⟨#[]⟩, .int .i64 0, .int .i64 0, .nilFunc, .string ⟨#[]⟩, .string ⟨#[]⟩, .string ⟨#[]⟩, .int .i64 0, .int .i64 0, .nilFunc, .string ⟨#[]⟩, .string ⟨#[]⟩, .string ⟨#[]⟩, .int .i64 0, .int .i64 0, .nilFunc, .string ⟨#[]⟩, .string ⟨#[]⟩, .string ⟨#[]⟩, .int .i64 0, .int .i64 0, .nilFunc, .string ⟨#[]⟩, .string ⟨#[]⟩, .string ⟨#[]⟩, .int .i64 0, .int .i64 0, .nilFunc, .string ⟨#[]⟩, .string ⟨#[]⟩, .string ⟨#[]⟩, .int .i64 0, .int .i64 0, .nilFunc, .string ⟨#[]⟩, .string ⟨#[]⟩, .string ⟨#[]⟩, .int .i64 0, .int .i64 0, .nilFunc, .string ⟨#[]⟩, .string ⟨#[]⟩, .string ⟨#[]⟩, .int .i64 0, .int .i64 0, .nilFunc, .string ⟨#[]⟩, .string ⟨#[]⟩, .string ⟨#[]⟩, .int .i64 0, .int .i64 0, .nilFunc, .string ⟨#[]⟩, .string ⟨#[]⟩, .string ⟨#[]⟩, .int .i64 0, .int .i64 0, .nilFunc, .string ⟨#[]⟩, .string ⟨#[]⟩, .string ⟨#[]⟩, .int .i64 0, .int .i64 0, .nilFunc]
theorem wpList_build_is {P : Program} {ops : Array Oper} {rest : List Oper} {o : Oper} {a : Act} {w : World} {Q : Exit → Act → World → Prop} (hg : o.guard = none) (t : TypeId) (parts : Array (Nat × Operand)) (ho : o.op = .build t parts) (cells : Array Value)
    (hc : P.built t (parts.map fun (i, x) => (i, a.eval x)).toList = some cells) (h : wpList P ops Q rest (a.put o.dst (.agg cells)) w) : wpList P ops Q (o :: rest) a w :=
  wpList_build hg t parts ho (by rw [hc]; rfl) (by rw [hc]; exact h)
/-- The box of a block that is answered, behind a call. -/
theorem step_blk {w w1 : World} {u : TypeId} (hb : Below (w.alloc (.cells #[.string ⟨#[]⟩, .string ⟨#[]⟩, .string ⟨#[]⟩, .int .i64 0, .int .i64 0, .nilFunc] u)).heap.size (w.alloc (.cells #[.string ⟨#[]⟩, .string ⟨#[]⟩, .string ⟨#[]⟩, .int .i64 0, .int .i64 0, .nilFunc] u)) w1) :
    w1.heap[w.heap.size]? = some (.cells #[.string ⟨#[]⟩, .string ⟨#[]⟩, .string ⟨#[]⟩, .int .i64 0, .int .i64 0, .nilFunc] u (0, 0)) ∧ Below w.heap.size w w1 := by
  refine ⟨?_, ((Below.refl _ _).alloc (Nat.le_refl _) _).trans (hb.mono (by simp))⟩
  rw [hb.block w.heap.size (by simp)]
  exact heap_alloc_last w _
end Go.Proofs.YtpaibmganlaaeaaGreatDoor
namespace Go.Proofs.YtpaibmganlaaeaaGreatDoor
set_option linter.unusedVariables false
open Go.RowKit
theorem call_frombits (n : Int) (w : World) : (callFunc 83 #[.int .u64 n]).run Tryz.prog w = .ok (.value (.float .f64 n.toNat)) w :=
  (run_callFunc_extern (e := Extern.MathFloatBits.float64frombits) Tryz.func83 (by kernel_rfl) (by kernel_rfl) (by kernel_rfl) (by kernel_rfl) _ w).trans rfl
theorem sg_t (h b : Int) (h0 : 0 ≤ b) (h1 : b < 18446744073709551616) (g0 : 0 < h) (g1 : h ≤ 9223372036854775808) (c : wrap64 b / h = 0) : true = sg h b := by
  rw [← fw_sg h b h0 h1 g0 g1, c]; rfl
theorem sg_all (b : Int) : sg 9223372036854775808 b = true := by simp [sg]; omega
theorem us_t (h b : Int) (h0 : 0 ≤ b) (g : 0 < h) : (b / h == 0) = decide (b < h) := by
  rw [Bool.eq_iff_iff]; simp only [beq_iff_eq, decide_eq_true_eq]
  constructor
  · intro e
    have := Int.emod_nonneg b (b := h) (by omega)
    have := Int.emod_lt_of_pos b g
    have := Int.emod_add_mul_ediv b h
    rw [e] at this; omega
  · intro e; exact Int.ediv_eq_zero_of_lt h0 e
theorem mw1 (b : Int) : mayW 1 b = decide (b < 2) := by simp [mayW]; omega
theorem mw2 (b : Int) : mayW 2 b = sg 128 b := by simp [mayW]
theorem mw3 (b : Int) : mayW 3 b = sg 32768 b := by simp [mayW]
theorem mw4 (b : Int) : mayW 4 b = sg 2147483648 b := by simp [mayW]
theorem mw5 (b : Int) : mayW 5 b = sg 9223372036854775808 b := by rw [sg_all]; simp [mayW]
theorem mw6 (b : Int) : mayW 6 b = decide (b < 256) := by simp [mayW]
theorem mw7 (b : Int) : mayW 7 b = decide (b < 65536) := by simp [mayW]
theorem mw8 (b : Int) : mayW 8 b = decide (b < 4294967296) := by simp [mayW]
theorem mw9 (b : Int) (h1 : b < 18446744073709551616) : mayW 9 b = decide (b < 18446744073709551616) := by simp [mayW, h1]
theorem mw10 (b : Int) : mayW 10 b = decide (b < 256) := by simp [mayW]
theorem mw11 (b : Int) : mayW 11 b = decide (b < 65536) := by simp [mayW]
theorem mw12 (b : Int) : mayW 12 b = decide (b < 4294967296) := by simp [mayW]
theorem mw13 (b : Int) (h1 : b < 18446744073709551616) : mayW 13 b = decide (b < 18446744073709551616) := by simp [mayW, h1]
theorem mw15t (b : Int) (h : b < 7258118400000000000) : mayW 15 b = (b % 86400000000000 == 0) := by rw [Bool.eq_iff_iff]; simp [mayW, h]
theorem mw15f (b : Int) (h : ¬ b < 7258118400000000000) : mayW 15 b = false := by simp [mayW, h]
theorem mw16 (b : Int) : mayW 16 b = decide (b < 86400000000000) := by simp [mayW]
theorem mw17 (b : Int) : mayW 17 b = decide (b < 7258118400000000000) := by simp [mayW]
theorem mw18 (b : Int) : mayW 18 b = (b == 9221120237041090561 || !fnan b.toNat) := by rw [Bool.eq_iff_iff]; simp [mayW]
theorem mwx (k b : Int) (h : 19 < k) : mayW k b = false := by unfold mayW; repeat (first | rw [if_neg (by omega)])


set_option maxHeartbeats 400000 in
theorem mayBits_of (k b : Int) (w : World) (h0 : 0 ≤ b) (h1 : b < 18446744073709551616) (hk : 0 ≤ k ∧ k < 256) :
    Calls Tryz.prog 34 #[.int .u8 k, .int .u64 b] w fun e w' => e = .returned (.bool (mayW k b)) ∧ w' = w := by
  rcases kinds k hk with rfl | rfl | rfl | rfl | rfl | rfl | rfl | rfl | rfl | rfl | rfl | rfl | rfl | rfl | rfl | rfl | rfl | rfl | rfl | rfl | hk2

  · go_enter Tryz.func34, Tryz.ntmps34
    go_wp2
    all_goals
      go_ret
      refine ⟨ret_bool ?_, rfl⟩
      rw [mw1, us_t _ b h0 (by omega)]
  · go_enter Tryz.func34, Tryz.ntmps34
    go_wp2
    all_goals
      go_ret
      refine ⟨ret_bool ?_, rfl⟩
      rw [mw2]
      first | exact sg_t _ b h0 h1 (by omega) (by omega) ‹_› | exact fw_sg _ b h0 h1 (by omega) (by omega)
  · go_enter Tryz.func34, Tryz.ntmps34
    go_wp2
    all_goals
      go_ret
      refine ⟨ret_bool ?_, rfl⟩
      rw [mw3]
      first | exact sg_t _ b h0 h1 (by omega) (by omega) ‹_› | exact fw_sg _ b h0 h1 (by omega) (by omega)
  · go_enter Tryz.func34, Tryz.ntmps34
    go_wp2
    all_goals
      go_ret
      refine ⟨ret_bool ?_, rfl⟩
      rw [mw4]
      first | exact sg_t _ b h0 h1 (by omega) (by omega) ‹_› | exact fw_sg _ b h0 h1 (by omega) (by omega)
  · go_enter Tryz.func34, Tryz.ntmps34
    go_wp2
    all_goals
      go_ret
      refine ⟨ret_bool ?_, rfl⟩
      rw [mw5]
      first | exact sg_t _ b h0 h1 (by omega) (by omega) ‹_› | exact fw_sg _ b h0 h1 (by omega) (by omega)
  · go_enter Tryz.func34, Tryz.ntmps34
    go_wp2
    all_goals
      go_ret
      refine ⟨ret_bool ?_, rfl⟩
      rw [mw6, us_t _ b h0 (by omega)]
  · go_enter Tryz.func34, Tryz.ntmps34
    go_wp2
    all_goals
      go_ret
      refine ⟨ret_bool ?_, rfl⟩
      rw [mw7, us_t _ b h0 (by omega)]
  · go_enter Tryz.func34, Tryz.ntmps34
    go_wp2
    all_goals
      go_ret
      refine ⟨ret_bool ?_, rfl⟩
      rw [mw8, us_t _ b h0 (by omega)]
  · go_enter Tryz.func34, Tryz.ntmps34
    go_wp2
    all_goals
      go_ret
      refine ⟨ret_bool ?_, rfl⟩
      rw [mw9 b h1, us_t _ b h0 (by omega)]
  · go_enter Tryz.func34, Tryz.ntmps34
    go_wp2
    all_goals
      go_ret
      refine ⟨ret_bool ?_, rfl⟩
      rw [mw10, us_t _ b h0 (by omega)]
  · go_enter Tryz.func34, Tryz.ntmps34
    go_wp2
    all_goals
      go_ret
      refine ⟨ret_bool ?_, rfl⟩
      rw [mw11, us_t _ b h0 (by omega)]
  · go_enter Tryz.func34, Tryz.ntmps34
    go_wp2
    all_goals
      go_ret
      refine ⟨ret_bool ?_, rfl⟩
      rw [mw12, us_t _ b h0 (by omega)]
  · go_enter Tryz.func34, Tryz.ntmps34
    go_wp2
    all_goals
      go_ret
      refine ⟨ret_bool ?_, rfl⟩
      rw [mw13 b h1, us_t _ b h0 (by omega)]
  · go_enter Tryz.func34, Tryz.ntmps34
    go_wp2
    all_goals
      go_ret
      refine ⟨ret_bool ?_, rfl⟩
      rfl
  · go_enter Tryz.func34, Tryz.ntmps34
    go_wp2
    all_goals
      go_ret
      refine ⟨ret_bool ?_, rfl⟩
      first | exact (mw15t b ‹_›).symm | exact (mw15f b (by omega)).symm
  · go_enter Tryz.func34, Tryz.ntmps34
    go_wp2
    all_goals
      go_ret
      refine ⟨ret_bool ?_, rfl⟩
      rw [mw16]
  · go_enter Tryz.func34, Tryz.ntmps34
    go_wp2
    all_goals
      go_ret
      refine ⟨ret_bool ?_, rfl⟩
      rw [mw17]
  · have hx := call_frombits
    go_enter Tryz.func34, Tryz.ntmps34
    go_wp2
    all_goals
      go_ret
      refine ⟨ret_bool ?_, rfl⟩
      first | rw [mw18, order_self_ne] | (rw [mw18]; simp [*]; done)
  · go_enter Tryz.func34, Tryz.ntmps34
    go_wp2
    all_goals
      go_ret
      refine ⟨ret_bool ?_, rfl⟩
      rfl
  · go_enter Tryz.func34, Tryz.ntmps34
    go_wp2
    all_goals
      go_ret
      refine ⟨ret_bool ?_, rfl⟩
      rfl
  · go_enter Tryz.func34, Tryz.ntmps34
    go_wp2
    all_goals
      go_ret
      refine ⟨ret_bool ?_, rfl⟩
      rw [mwx k b hk2]
end Go.Proofs.YtpaibmganlaaeaaGreatDoor
namespace Go.Proofs.YtpaibmganlaaeaaGreatDoor
set_option linter.unusedVariables false
open Go.RowKit
theorem sgr_t (h m b : Int) (h0 : 0 ≤ b) (h1 : b < 18446744073709551616) (g0 : 0 < h) (g1 : h ≤ 9223372036854775808) (e : m + 1 = h) (c : -h ≤ wrap64 b) : decide (wrap64 b ≤ m) = sg h b := by
  rw [Bool.eq_iff_iff]; simp only [decide_eq_true_eq, sg]; unfold wrap64 at *; omega
theorem sgr_f (h b : Int) (h0 : 0 ≤ b) (h1 : b < 18446744073709551616) (g0 : 0 < h) (g1 : h ≤ 9223372036854775808) (c : wrap64 b < -h) : false = sg h b := by
  symm; simp only [decide_eq_false_iff_not, sg]; unfold wrap64 at *; omega
theorem ttr_t (h b : Int) (h0 : 0 ≤ b) (h1 : b < 18446744073709551616) (g1 : h ≤ 9223372036854775808) (c : 0 ≤ wrap64 b) : decide (wrap64 b < h) = decide (b < h) := by
  rw [Bool.eq_iff_iff]; simp only [decide_eq_true_eq]; unfold wrap64 at *; omega
theorem ttr_f (h b : Int) (h0 : 0 ≤ b) (h1 : b < 18446744073709551616) (g1 : h ≤ 9223372036854775808) (c : wrap64 b < 0) : false = decide (b < h) := by
  symm; simp only [decide_eq_false_iff_not]; unfold wrap64 at *; omega
theorem t15a (b : Int) (h0 : 0 ≤ b) (h1 : b < 18446744073709551616) (c : 0 ≤ wrap64 b) (d : wrap64 b < 7258118400000000000) : (wrap64 b % 86400000000000 == 0) = mayW 15 b := by
  have e : wrap64 b = b := by unfold wrap64 at *; omega
  rw [e] at d ⊢
  exact (mw15t b d).symm
theorem t15b (b : Int) (h0 : 0 ≤ b) (h1 : b < 18446744073709551616) (c : 0 ≤ wrap64 b) (d : 7258118400000000000 ≤ wrap64 b) : false = mayW 15 b :=
  (mw15f b (by unfold wrap64 at *; omega)).symm
theorem t15c (b : Int) (h0 : 0 ≤ b) (h1 : b < 18446744073709551616) (c : wrap64 b < 0) : false = mayW 15 b :=
  (mw15f b (by unfold wrap64 at *; omega)).symm
set_option maxHeartbeats 400000 in
theorem may_of (k b : Int) (w : World) (h0 : 0 ≤ b) (h1 : b < 18446744073709551616) (hk : 0 ≤ k ∧ k < 256) :
    Calls Tryz.prog 9 #[.int .u8 k, .int .u64 b] w fun e w' => e = .returned (.bool (mayW k b)) ∧ w' = w := by
  rcases kinds k hk with rfl | rfl | rfl | rfl | rfl | rfl | rfl | rfl | rfl | rfl | rfl | rfl | rfl | rfl | rfl | rfl | rfl | rfl | rfl | rfl | hk2

  · go_enter Tryz.func9, Tryz.ntmps9
    go_wp2
    all_goals
      go_ret
      refine ⟨ret_bool ?_, rfl⟩
      rw [mw1]; simp; omega
  · go_enter Tryz.func9, Tryz.ntmps9
    go_wp2
    all_goals
      go_ret
      refine ⟨ret_bool ?_, rfl⟩
      rw [mw2]
      first | exact sgr_t 128 127 b h0 h1 (by omega) (by omega) (by omega) ‹_› | exact sgr_f 128 b h0 h1 (by omega) (by omega) ‹_›
  · go_enter Tryz.func9, Tryz.ntmps9
    go_wp2
    all_goals
      go_ret
      refine ⟨ret_bool ?_, rfl⟩
      rw [mw3]
      first | exact sgr_t 32768 32767 b h0 h1 (by omega) (by omega) (by omega) ‹_› | exact sgr_f 32768 b h0 h1 (by omega) (by omega) ‹_›
  · go_enter Tryz.func9, Tryz.ntmps9
    go_wp2
    all_goals
      go_ret
      refine ⟨ret_bool ?_, rfl⟩
      rw [mw4]
      first | exact sgr_t 2147483648 2147483647 b h0 h1 (by omega) (by omega) (by omega) ‹_› | exact sgr_f 2147483648 b h0 h1 (by omega) (by omega) ‹_›
  · go_enter Tryz.func9, Tryz.ntmps9
    go_wp2
    all_goals
      go_ret
      refine ⟨ret_bool ?_, rfl⟩
      rw [mw5, sg_all]
  · go_enter Tryz.func9, Tryz.ntmps9
    go_wp2
    all_goals
      go_ret
      refine ⟨ret_bool ?_, rfl⟩
      rw [mw6]
  · go_enter Tryz.func9, Tryz.ntmps9
    go_wp2
    all_goals
      go_ret
      refine ⟨ret_bool ?_, rfl⟩
      rw [mw7]
  · go_enter Tryz.func9, Tryz.ntmps9
    go_wp2
    all_goals
      go_ret
      refine ⟨ret_bool ?_, rfl⟩
      rw [mw8]
  · go_enter Tryz.func9, Tryz.ntmps9
    go_wp2
    all_goals
      go_ret
      refine ⟨ret_bool ?_, rfl⟩
      rfl
  · go_enter Tryz.func9, Tryz.ntmps9
    go_wp2
    all_goals
      go_ret
      refine ⟨ret_bool ?_, rfl⟩
      rw [mw10]
  · go_enter Tryz.func9, Tryz.ntmps9
    go_wp2
    all_goals
      go_ret
      refine ⟨ret_bool ?_, rfl⟩
      rw [mw11]
  · go_enter Tryz.func9, Tryz.ntmps9
    go_wp2
    all_goals
      go_ret
      refine ⟨ret_bool ?_, rfl⟩
      rw [mw12]
  · go_enter Tryz.func9, Tryz.ntmps9
    go_wp2
    all_goals
      go_ret
      refine ⟨ret_bool ?_, rfl⟩
      rfl
  · go_enter Tryz.func9, Tryz.ntmps9
    go_wp2
    all_goals
      go_ret
      refine ⟨ret_bool ?_, rfl⟩
      rfl
  · go_enter Tryz.func9, Tryz.ntmps9
    go_wp2
    all_goals
      go_ret
      refine ⟨ret_bool ?_, rfl⟩
      first | exact t15a b h0 h1 ‹_› ‹_› | exact t15b b h0 h1 ‹_› ‹_› | exact t15c b h0 h1 ‹_›
  · go_enter Tryz.func9, Tryz.ntmps9
    go_wp2
    all_goals
      go_ret
      refine ⟨ret_bool ?_, rfl⟩
      rw [mw16]; first | exact ttr_t 86400000000000 b h0 h1 (by omega) ‹_› | exact ttr_f 86400000000000 b h0 h1 (by omega) ‹_›
  · go_enter Tryz.func9, Tryz.ntmps9
    go_wp2
    all_goals
      go_ret
      refine ⟨ret_bool ?_, rfl⟩
      rw [mw17]; first | exact ttr_t 7258118400000000000 b h0 h1 (by omega) ‹_› | exact ttr_f 7258118400000000000 b h0 h1 (by omega) ‹_›
  · go_enter Tryz.func9, Tryz.ntmps9
    go_wp2
    all_goals
      go_ret
      refine ⟨ret_bool ?_, rfl⟩
      rw [mw18]; first | rw [fnan_hi b h0 h1 ‹_›] | (rw [fnan_lo b h0 h1 ‹_›]; simp; done) | (simp [*]; done)
  · go_enter Tryz.func9, Tryz.ntmps9
    go_wp2
    all_goals
      go_ret
      refine ⟨ret_bool ?_, rfl⟩
      rfl
  · go_enter Tryz.func9, Tryz.ntmps9
    go_wp2
    all_goals
      go_ret
      refine ⟨ret_bool ?_, rfl⟩
      rfl
  · go_enter Tryz.func9, Tryz.ntmps9
    go_wp2
    all_goals
      go_ret
      refine ⟨ret_bool ?_, rfl⟩
      rw [mwx k b hk2]
end Go.Proofs.YtpaibmganlaaeaaGreatDoor
namespace Go.Proofs.YtpaibmganlaaeaaGreatDoor
set_option linter.unusedVariables false
open Go.RowKit
/-- May a value be? -/
def may3 (k b : Int) (s : ByteArray) : Bool :=
  if k = 19 then decide (b = 0 ∧ s.size ≤ 254) else decide (s.toList = []) && mayW k b
abbrev V (k b : Int) (s : ByteArray) : Value := .agg #[.int .u8 k, .int .u64 b, .string s]
theorem m3s (b : Int) (s : ByteArray) (h : b = 0) : decide ((s.size : Int) ≤ 254) = may3 19 b s := by
  subst h; rw [Bool.eq_iff_iff]; simp [may3]; omega
theorem m3n (b : Int) (s : ByteArray) (h : ¬ b = 0) : false = may3 19 b s := by simp [may3, h]
theorem m3e (k b : Int) (s : ByteArray) (c : ¬ k = 19) (h : s.toList = []) : mayW k b = may3 k b s := by simp [may3, h, c]
theorem m3f (k b : Int) (s : ByteArray) (c : ¬ k = 19) (h : ¬ s.toList = []) : false = may3 k b s := by simp [may3, h, c]
set_option maxHeartbeats 400000 in
theorem May_of (k b : Int) (s : ByteArray) (w : World) (h0 : 0 ≤ b) (h1 : b < 18446744073709551616) (hk : 0 ≤ k ∧ k < 256) (hs : s.size ≤ maxLen) :
    Calls Tryz.prog 15 #[V k b s] w fun e w' => e = .returned (.bool (may3 k b s)) ∧ Below w.heap.size w w' := by
  unfold maxLen at hs
  by_cases c : k = 19
  · subst c
    go_enter Tryz.func15, Tryz.ntmps15
    go_wp2
    all_goals
      go_ret
      refine ⟨ret_bool ?_, (Below.refl _ _).alloc (Nat.le_refl _) _⟩
      first | exact m3s b s ‹_› | exact m3n b s ‹_›
  · go_enter Tryz.func15, Tryz.ntmps15
    go_wp2_with (go_at_call 34; refine (mayBits_of _ _ _ h0 h1 hk).mono ?_; rintro e w' ⟨rfl, rfl⟩)
    all_goals
      go_ret
      refine ⟨ret_bool ?_, (Below.refl _ _).alloc (Nat.le_refl _) _⟩
      first | exact m3e k b s c ‹_› | exact m3f k b s c ‹_›
set_option maxHeartbeats 400000 in
theorem MayR_of (k b : Int) (s : ByteArray) (w : World) (h0 : 0 ≤ b) (h1 : b < 18446744073709551616) (hk : 0 ≤ k ∧ k < 256) (hs : s.size ≤ maxLen) :
    Calls Tryz.prog 4 #[V k b s] w fun e w' => e = .returned (.bool (may3 k b s)) ∧ Below w.heap.size w w' := by
  unfold maxLen at hs
  by_cases c : k = 19
  · subst c
    go_enter Tryz.func4, Tryz.ntmps4
    go_wp2
    all_goals
      go_ret
      refine ⟨ret_bool ?_, (Below.refl _ _).alloc (Nat.le_refl _) _⟩
      first | exact m3s b s ‹_› | exact m3n b s ‹_›
  · go_enter Tryz.func4, Tryz.ntmps4
    go_wp2_with (go_at_call 9; refine (may_of _ _ _ h0 h1 hk).mono ?_; rintro e w' ⟨rfl, rfl⟩)
    all_goals
      go_ret
      refine ⟨ret_bool ?_, (Below.refl _ _).alloc (Nat.le_refl _) _⟩
      first | exact m3e k b s c ‹_› | exact m3f k b s c ‹_›
end Go.Proofs.YtpaibmganlaaeaaGreatDoor
namespace Go.Proofs.YtpaibmganlaaeaaGreatDoor
set_option linter.unusedVariables false
open Go.RowKit
/-- A world in which nothing old has turned. -/
structure Sub (W : World) where
  w : World
  h : Below W.heap.size W w
theorem Sub.cell {W : World} (x : Sub W) (b o : Nat) (h : b < W.heap.size) : x.w.cell? ⟨b, o, none⟩ = W.cell? ⟨b, o, none⟩ := x.h.cell (p := ⟨b, o, none⟩) h
/-- One walk, in the text's order, of a region whose order Go leaves open, where each operation yields one value in every such world and leaves such a world. -/
theorem wp_region_sub {P : Program} {id : Nat} {Q : Exit → Act → World → Prop} {a : Act} {w : World} {l : List Oper} (hm : P.follows .mixedOrders = true) (hB : Region.lexB .any l.toArray = true)
    (h : wpQuiet P l.toArray (fun w' => ∃ x : Sub w, w' = x.w) (fun a' => ∀ w', (∃ x : Sub w, w' = x.w) → Q .normal a' w') l a) : (Code.region id l.toArray true).wp P Q a w :=
  wp_region_quiet (C := fun w' => ∃ x : Sub w, w' = x.w) hm hB ⟨⟨w.drew, (Below.refl _ _).drew⟩, rfl⟩ (by simpa using h)
theorem wp_region_sub2 {P : Program} {id : Nat} {Q : Exit → Act → World → Prop} {a : Act} {w : World} {l : List Oper} (hm : P.follows .mixedOrders = true) (hB : Region.lexB .any l.toArray = true)
    (h : (∀ (x : Sub w) (b o : Nat), b < w.heap.size → x.w.cell? ⟨b, o, none⟩ = w.cell? ⟨b, o, none⟩) → wpQuiet P l.toArray (fun w' => ∃ x : Sub w, w' = x.w) (fun a' => ∀ w', (∃ x : Sub w, w' = x.w) → Q .normal a' w') l a) : (Code.region id l.toArray true).wp P Q a w :=
  wp_region_sub hm hB (h fun x b o hb => x.cell b o hb)
theorem calls_sub {P : Program} {f : FuncId} {args : Array Value} {W : World} {x : Sub W} {v : Value} (h : Calls P f args x.w fun e w' => e = .returned v ∧ Below x.w.heap.size x.w w') :
    Calls P f args x.w fun e w'' => e = .returned v ∧ ∃ y : Sub W, w'' = y.w :=
  h.mono fun _ w' ⟨he, hb⟩ => ⟨he, ⟨w', x.h.trans (hb.mono x.h.size)⟩, rfl⟩
theorem calls_sub_same {P : Program} {f : FuncId} {args : Array Value} {W : World} {x : Sub W} {v : Value} (h : Calls P f args x.w fun e w' => e = .returned v ∧ w' = x.w) :
    Calls P f args x.w fun e w'' => e = .returned v ∧ ∃ y : Sub W, w'' = y.w :=
  h.mono fun _ w' ⟨he, hb⟩ => ⟨he, x, hb⟩
end Go.Proofs.YtpaibmganlaaeaaGreatDoor
