/- What the document's may answers, for every kind and all bits; no statement of the seat is proved here. -/
import Derived.Test.YtpcjnhffpkpchaaGreatMayA
namespace Go.Proofs.YtpcjnhffpkpchaaGreat
set_option linter.unusedVariables false
open Go.RowKit
theorem sgr_t (h m b : Int) (h0 : 0 ≤ b) (h1 : b < 18446744073709551616) (g0 : 0 < h) (g1 : h ≤ 9223372036854775808) (e : m + 1 = h) (c : -h ≤ wrap64 b) : decide (wrap64 b ≤ m) = sg h b := by
  rw [Bool.eq_iff_iff]; simp only [decide_eq_true_eq, sg]; unfold wrap64 at *; omega
theorem sgr_f (h b : Int) (h0 : 0 ≤ b) (h1 : b < 18446744073709551616) (g0 : 0 < h) (g1 : h ≤ 9223372036854775808) (c : wrap64 b < -h) : false = sg h b := by
  symm; simp only [decide_eq_false_iff_not, sg]; unfold wrap64 at *; omega
theorem ttr_t (h b : Int) (h0 : 0 ≤ b) (h1 : b < 18446744073709551616) (g1 : h ≤ 9223372036854775808) (c : 0 ≤ wrap64 b) : decide (wrap64 b < h) = decide (b < h) := by
  rw [Bool.eq_iff_iff]; simp only [decide_eq_true_eq]; unfold wrap64 at *; omega
theorem ttr_f (h b : Int) (h0 : 0 ≤ b) (h1 : b < 18446744073709551616) (g1 : h ≤ 9223372036854775808) (c : wrap64 b < 0) : false = decide (b < h) := by
  symm; simp only [decide_eq_false_iff_not]; unfold wrap64 at *; omega
theorem t15a (b : Int) (h0 : 0 ≤ b) (h1 : b < 18446744073709551616) (c : 0 ≤ wrap64 b) (d : wrap64 b < 7258118400000000000) : (wrap64 b % 86400000000000 == 0) = mayW 15 b := by
  have e : wrap64 b = b := by unfold wrap64 at *; omega
  rw [e] at d ⊢
  exact (mw15t b d).symm
theorem t15b (b : Int) (h0 : 0 ≤ b) (h1 : b < 18446744073709551616) (c : 0 ≤ wrap64 b) (d : 7258118400000000000 ≤ wrap64 b) : false = mayW 15 b :=
  (mw15f b (by unfold wrap64 at *; omega)).symm
theorem t15c (b : Int) (h0 : 0 ≤ b) (h1 : b < 18446744073709551616) (c : wrap64 b < 0) : false = mayW 15 b :=
  (mw15f b (by unfold wrap64 at *; omega)).symm
set_option maxHeartbeats 400000 in
theorem may_of (k b : Int) (w : World) (h0 : 0 ≤ b) (h1 : b < 18446744073709551616) (hk : 0 ≤ k ∧ k < 256) :
    Calls Tryz.prog 99 #[.int .u8 k, .int .u64 b] w fun e w' => e = .returned (.bool (mayW k b)) ∧ w' = w := by
  rcases kinds k hk with rfl | rfl | rfl | rfl | rfl | rfl | rfl | rfl | rfl | rfl | rfl | rfl | rfl | rfl | rfl | rfl | rfl | rfl | rfl | rfl | hk2

  · go_enter Tryz.func99, Tryz.ntmps99
    go_wp2
    all_goals
      go_ret
      refine ⟨ret_bool ?_, rfl⟩
      rw [mw1]; simp; omega
  · go_enter Tryz.func99, Tryz.ntmps99
    go_wp2
    all_goals
      go_ret
      refine ⟨ret_bool ?_, rfl⟩
      rw [mw2]
      first | exact sgr_t 128 127 b h0 h1 (by omega) (by omega) (by omega) ‹_› | exact sgr_f 128 b h0 h1 (by omega) (by omega) ‹_›
  · go_enter Tryz.func99, Tryz.ntmps99
    go_wp2
    all_goals
      go_ret
      refine ⟨ret_bool ?_, rfl⟩
      rw [mw3]
      first | exact sgr_t 32768 32767 b h0 h1 (by omega) (by omega) (by omega) ‹_› | exact sgr_f 32768 b h0 h1 (by omega) (by omega) ‹_›
  · go_enter Tryz.func99, Tryz.ntmps99
    go_wp2
    all_goals
      go_ret
      refine ⟨ret_bool ?_, rfl⟩
      rw [mw4]
      first | exact sgr_t 2147483648 2147483647 b h0 h1 (by omega) (by omega) (by omega) ‹_› | exact sgr_f 2147483648 b h0 h1 (by omega) (by omega) ‹_›
  · go_enter Tryz.func99, Tryz.ntmps99
    go_wp2
    all_goals
      go_ret
      refine ⟨ret_bool ?_, rfl⟩
      rw [mw5, sg_all]
  · go_enter Tryz.func99, Tryz.ntmps99
    go_wp2
    all_goals
      go_ret
      refine ⟨ret_bool ?_, rfl⟩
      rw [mw6]
  · go_enter Tryz.func99, Tryz.ntmps99
    go_wp2
    all_goals
      go_ret
      refine ⟨ret_bool ?_, rfl⟩
      rw [mw7]
  · go_enter Tryz.func99, Tryz.ntmps99
    go_wp2
    all_goals
      go_ret
      refine ⟨ret_bool ?_, rfl⟩
      rw [mw8]
  · go_enter Tryz.func99, Tryz.ntmps99
    go_wp2
    all_goals
      go_ret
      refine ⟨ret_bool ?_, rfl⟩
      rfl
  · go_enter Tryz.func99, Tryz.ntmps99
    go_wp2
    all_goals
      go_ret
      refine ⟨ret_bool ?_, rfl⟩
      rw [mw10]
  · go_enter Tryz.func99, Tryz.ntmps99
    go_wp2
    all_goals
      go_ret
      refine ⟨ret_bool ?_, rfl⟩
      rw [mw11]
  · go_enter Tryz.func99, Tryz.ntmps99
    go_wp2
    all_goals
      go_ret
      refine ⟨ret_bool ?_, rfl⟩
      rw [mw12]
  · go_enter Tryz.func99, Tryz.ntmps99
    go_wp2
    all_goals
      go_ret
      refine ⟨ret_bool ?_, rfl⟩
      rfl
  · go_enter Tryz.func99, Tryz.ntmps99
    go_wp2
    all_goals
      go_ret
      refine ⟨ret_bool ?_, rfl⟩
      rfl
  · go_enter Tryz.func99, Tryz.ntmps99
    go_wp2
    all_goals
      go_ret
      refine ⟨ret_bool ?_, rfl⟩
      first | exact t15a b h0 h1 ‹_› ‹_› | exact t15b b h0 h1 ‹_› ‹_› | exact t15c b h0 h1 ‹_›
  · go_enter Tryz.func99, Tryz.ntmps99
    go_wp2
    all_goals
      go_ret
      refine ⟨ret_bool ?_, rfl⟩
      rw [mw16]; first | exact ttr_t 86400000000000 b h0 h1 (by omega) ‹_› | exact ttr_f 86400000000000 b h0 h1 (by omega) ‹_›
  · go_enter Tryz.func99, Tryz.ntmps99
    go_wp2
    all_goals
      go_ret
      refine ⟨ret_bool ?_, rfl⟩
      rw [mw17]; first | exact ttr_t 7258118400000000000 b h0 h1 (by omega) ‹_› | exact ttr_f 7258118400000000000 b h0 h1 (by omega) ‹_›
  · go_enter Tryz.func99, Tryz.ntmps99
    go_wp2
    all_goals
      go_ret
      refine ⟨ret_bool ?_, rfl⟩
      rw [mw18]; first | rw [fnan_hi b h0 h1 ‹_›] | (rw [fnan_lo b h0 h1 ‹_›]; simp; done) | (simp [*]; done)
  · go_enter Tryz.func99, Tryz.ntmps99
    go_wp2
    all_goals
      go_ret
      refine ⟨ret_bool ?_, rfl⟩
      rfl
  · go_enter Tryz.func99, Tryz.ntmps99
    go_wp2
    all_goals
      go_ret
      refine ⟨ret_bool ?_, rfl⟩
      rfl
  · go_enter Tryz.func99, Tryz.ntmps99
    go_wp2
    all_goals
      go_ret
      refine ⟨ret_bool ?_, rfl⟩
      rw [mwx k b hk2]
end Go.Proofs.YtpcjnhffpkpchaaGreat
