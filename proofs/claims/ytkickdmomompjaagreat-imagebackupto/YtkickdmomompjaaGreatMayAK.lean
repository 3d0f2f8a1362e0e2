/- What value.mayBits and the document's may answer, for every kind and all bits; no statement of the seat is proved here. -/
import Derived.Test.YtkickdmomompjaaGreatKoA1
namespace Go.Proofs.YtkickdmomompjaaGreat
set_option linter.unusedVariables false
open Go.RowKit
theorem call_frombits (n : Int) (w : World) : (callFunc 109 #[.int .u64 n]).run Tryz.prog w = .ok (.value (.float .f64 n.toNat)) w :=
  (run_callFunc_extern (e := Extern.MathFloatBits.float64frombits) Tryz.func109 (by kernel_rfl) (by kernel_rfl) (by kernel_rfl) (by kernel_rfl) _ w).trans rfl
theorem sg_t (h b : Int) (h0 : 0 ≤ b) (h1 : b < 18446744073709551616) (g0 : 0 < h) (g1 : h ≤ 9223372036854775808) (c : wrap64 b / h = 0) : true = sg h b := by
  rw [← fw_sg h b h0 h1 g0 g1, c]; rfl
theorem sg_all (b : Int) : sg 9223372036854775808 b = true := by simp [sg]; omega
theorem us_t (h b : Int) (h0 : 0 ≤ b) (g : 0 < h) : (b / h == 0) = decide (b < h) := by
  rw [Bool.eq_iff_iff]; simp only [beq_iff_eq, decide_eq_true_eq]
  constructor
  · intro e
    have := Int.emod_nonneg b (b := h) (by omega)
    have := Int.emod_lt_of_pos b g
    have := Int.emod_add_mul_ediv b h
    rw [e] at this; omega
  · intro e; exact Int.ediv_eq_zero_of_lt h0 e
theorem mw1 (b : Int) : mayW 1 b = decide (b < 2) := by simp [mayW]; omega
theorem mw2 (b : Int) : mayW 2 b = sg 128 b := by simp [mayW]
theorem mw3 (b : Int) : mayW 3 b = sg 32768 b := by simp [mayW]
theorem mw4 (b : Int) : mayW 4 b = sg 2147483648 b := by simp [mayW]
theorem mw5 (b : Int) : mayW 5 b = sg 9223372036854775808 b := by rw [sg_all]; simp [mayW]
theorem mw6 (b : Int) : mayW 6 b = decide (b < 256) := by simp [mayW]
theorem mw7 (b : Int) : mayW 7 b = decide (b < 65536) := by simp [mayW]
theorem mw8 (b : Int) : mayW 8 b = decide (b < 4294967296) := by simp [mayW]
theorem mw9 (b : Int) (h1 : b < 18446744073709551616) : mayW 9 b = decide (b < 18446744073709551616) := by simp [mayW, h1]
theorem mw10 (b : Int) : mayW 10 b = decide (b < 256) := by simp [mayW]
theorem mw11 (b : Int) : mayW 11 b = decide (b < 65536) := by simp [mayW]
theorem mw12 (b : Int) : mayW 12 b = decide (b < 4294967296) := by simp [mayW]
theorem mw13 (b : Int) (h1 : b < 18446744073709551616) : mayW 13 b = decide (b < 18446744073709551616) := by simp [mayW, h1]
theorem mw15t (b : Int) (h : b < 7258118400000000000) : mayW 15 b = (b % 86400000000000 == 0) := by rw [Bool.eq_iff_iff]; simp [mayW, h]
theorem mw15f (b : Int) (h : ¬ b < 7258118400000000000) : mayW 15 b = false := by simp [mayW, h]
theorem mw16 (b : Int) : mayW 16 b = decide (b < 86400000000000) := by simp [mayW]
theorem mw17 (b : Int) : mayW 17 b = decide (b < 7258118400000000000) := by simp [mayW]
theorem mw18 (b : Int) : mayW 18 b = (b == 9221120237041090561 || !fnan b.toNat) := by rw [Bool.eq_iff_iff]; simp [mayW]
theorem mwx (k b : Int) (h : 19 < k) : mayW k b = false := by unfold mayW; repeat (first | rw [if_neg (by omega)])


set_option maxHeartbeats 400000 in
theorem mayBits_of (k b : Int) (w : World) (h0 : 0 ≤ b) (h1 : b < 18446744073709551616) (hk : 0 ≤ k ∧ k < 256) :
    Calls Tryz.prog 101 #[.int .u8 k, .int .u64 b] w fun e w' => e = .returned (.bool (mayW k b)) ∧ w' = w := by
  rcases kinds k hk with rfl | rfl | rfl | rfl | rfl | rfl | rfl | rfl | rfl | rfl | rfl | rfl | rfl | rfl | rfl | rfl | rfl | rfl | rfl | rfl | hk2

  · go_enter Tryz.func101, Tryz.ntmps101
    go_wp2
    all_goals
      go_ret
      refine ⟨ret_bool ?_, rfl⟩
      rw [mw1, us_t _ b h0 (by omega)]
  · go_enter Tryz.func101, Tryz.ntmps101
    go_wp2
    all_goals
      go_ret
      refine ⟨ret_bool ?_, rfl⟩
      rw [mw2]
      first | exact sg_t _ b h0 h1 (by omega) (by omega) ‹_› | exact fw_sg _ b h0 h1 (by omega) (by omega)
  · go_enter Tryz.func101, Tryz.ntmps101
    go_wp2
    all_goals
      go_ret
      refine ⟨ret_bool ?_, rfl⟩
      rw [mw3]
      first | exact sg_t _ b h0 h1 (by omega) (by omega) ‹_› | exact fw_sg _ b h0 h1 (by omega) (by omega)
  · go_enter Tryz.func101, Tryz.ntmps101
    go_wp2
    all_goals
      go_ret
      refine ⟨ret_bool ?_, rfl⟩
      rw [mw4]
      first | exact sg_t _ b h0 h1 (by omega) (by omega) ‹_› | exact fw_sg _ b h0 h1 (by omega) (by omega)
  · go_enter Tryz.func101, Tryz.ntmps101
    go_wp2
    all_goals
      go_ret
      refine ⟨ret_bool ?_, rfl⟩
      rw [mw5]
      first | exact sg_t _ b h0 h1 (by omega) (by omega) ‹_› | exact fw_sg _ b h0 h1 (by omega) (by omega)
  · go_enter Tryz.func101, Tryz.ntmps101
    go_wp2
    all_goals
      go_ret
      refine ⟨ret_bool ?_, rfl⟩
      rw [mw6, us_t _ b h0 (by omega)]
  · go_enter Tryz.func101, Tryz.ntmps101
    go_wp2
    all_goals
      go_ret
      refine ⟨ret_bool ?_, rfl⟩
      rw [mw7, us_t _ b h0 (by omega)]
  · go_enter Tryz.func101, Tryz.ntmps101
    go_wp2
    all_goals
      go_ret
      refine ⟨ret_bool ?_, rfl⟩
      rw [mw8, us_t _ b h0 (by omega)]
  · go_enter Tryz.func101, Tryz.ntmps101
    go_wp2
    all_goals
      go_ret
      refine ⟨ret_bool ?_, rfl⟩
      rw [mw9 b h1, us_t _ b h0 (by omega)]
  · go_enter Tryz.func101, Tryz.ntmps101
    go_wp2
    all_goals
      go_ret
      refine ⟨ret_bool ?_, rfl⟩
      rw [mw10, us_t _ b h0 (by omega)]
  · go_enter Tryz.func101, Tryz.ntmps101
    go_wp2
    all_goals
      go_ret
      refine ⟨ret_bool ?_, rfl⟩
      rw [mw11, us_t _ b h0 (by omega)]
  · go_enter Tryz.func101, Tryz.ntmps101
    go_wp2
    all_goals
      go_ret
      refine ⟨ret_bool ?_, rfl⟩
      rw [mw12, us_t _ b h0 (by omega)]
  · go_enter Tryz.func101, Tryz.ntmps101
    go_wp2
    all_goals
      go_ret
      refine ⟨ret_bool ?_, rfl⟩
      rw [mw13 b h1, us_t _ b h0 (by omega)]
  · go_enter Tryz.func101, Tryz.ntmps101
    go_wp2
    all_goals
      go_ret
      refine ⟨ret_bool ?_, rfl⟩
      rfl
  · go_enter Tryz.func101, Tryz.ntmps101
    go_wp2
    all_goals
      go_ret
      refine ⟨ret_bool ?_, rfl⟩
      first | exact (mw15t b ‹_›).symm | exact (mw15f b (by omega)).symm
  · go_enter Tryz.func101, Tryz.ntmps101
    go_wp2
    all_goals
      go_ret
      refine ⟨ret_bool ?_, rfl⟩
      rw [mw16]
  · go_enter Tryz.func101, Tryz.ntmps101
    go_wp2
    all_goals
      go_ret
      refine ⟨ret_bool ?_, rfl⟩
      rw [mw17]
  · have hx := call_frombits
    go_enter Tryz.func101, Tryz.ntmps101
    go_wp2
    all_goals
      go_ret
      refine ⟨ret_bool ?_, rfl⟩
      first | rw [mw18, order_self_ne] | (rw [mw18]; simp [*]; done)
  · go_enter Tryz.func101, Tryz.ntmps101
    go_wp2
    all_goals
      go_ret
      refine ⟨ret_bool ?_, rfl⟩
      rfl
  · go_enter Tryz.func101, Tryz.ntmps101
    go_wp2
    all_goals
      go_ret
      refine ⟨ret_bool ?_, rfl⟩
      rfl
  · go_enter Tryz.func101, Tryz.ntmps101
    go_wp2
    all_goals
      go_ret
      refine ⟨ret_bool ?_, rfl⟩
      rw [mwx k b hk2]
end Go.Proofs.YtkickdmomompjaaGreat
