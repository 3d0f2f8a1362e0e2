/- The document's 'fromWhole' of an integer, to every kind; no statement of the seat is proved here. -/
import Derived.Test.YtnklphdogdbiiaaGreatDoorBkU1
import Derived.Test.YtnklphdogdbiiaaGreatDoorBkU2
import Derived.Test.YtnklphdogdbiiaaGreatDoorBkU3
import Derived.Test.YtnklphdogdbiiaaGreatDoorBkU4
import Derived.Test.YtnklphdogdbiiaaGreatDoorBkU5
namespace Go.Proofs.YtnklphdogdbiiaaGreatDoor
set_option linter.unusedVariables false
open Go.RowKit
section
variable (l kv b : Int) (w : World)
theorem num_neg (h : 2 ≤ kv ∧ kv ≤ 5) (g : 9223372036854775808 ≤ b) (g1 : b < 18446744073709551616) : num kv b = b - 18446744073709551616 := by
  unfold num
  rw [if_pos (Or.inl h)]
  unfold wrap64
  omega
theorem num_pos (h : 2 ≤ kv ∧ kv ≤ 9) (g0 : 0 ≤ b) (g1 : b < 18446744073709551616) (n : ¬ (kv ≤ 5 ∧ 9223372036854775808 ≤ b)) : num kv b = b := by
  by_cases s : kv ≤ 5
  · unfold num
    rw [if_pos (Or.inl ⟨h.1, s⟩)]
    unfold wrap64
    omega
  · exact num_u (by omega)
theorem fw_all (h0 : 0 ≤ b) (h1 : b < 18446744073709551616) (hl : 1 ≤ l ∧ l ≤ 19) (hk : 2 ≤ kv ∧ kv ≤ 9) (m : may3 kv b E0 = true) (hP : Pow w) :
    Calls Tryz.prog 30 #[.int .u8 l, V kv b E0] w fun e w' => RcOk l (num kv b) e ∧ Below w.heap.size w w' := by
  by_cases n : kv ≤ 5 ∧ 9223372036854775808 ≤ b
  · rw [num_neg kv b ⟨hk.1, n.1⟩ n.2 h1]
    rcases (by omega : l = 1 ∨ (2 ≤ l ∧ l ≤ 13) ∨ (14 ≤ l ∧ l ≤ 17) ∨ l = 18 ∨ l = 19) with rfl | d | d | rfl | rfl
    · exact fw_neg_one kv b w n.2 h1 ⟨hk.1, n.1⟩
    · exact fw_neg_two l kv b w n.2 h1 ⟨hk.1, n.1⟩ d
    · by_cases k5 : kv = 5
      · subst k5
        by_cases l14 : l = 14
        · subst l14
          exact fw_neg_time5a b w n.2 h1
        · exact fw_neg_time5b l b w n.2 h1 d (by simp; omega)
      · exact fw_neg_timex l kv b w n.2 h1 ⟨hk.1, n.1⟩ d (by simp; omega)
    · exact fw_neg_real kv b w n.2 h1 ⟨hk.1, n.1⟩
    · exact fw_neg_text kv b w n.2 h1 ⟨hk.1, n.1⟩ m hP
  · rw [num_pos kv b hk h0 h1 n]
    have np : kv ≤ 5 → b < 9223372036854775808 := fun h => by omega
    rcases (by omega : l = 1 ∨ (2 ≤ l ∧ l ≤ 13) ∨ (14 ≤ l ∧ l ≤ 17) ∨ l = 18 ∨ l = 19) with rfl | d | d | rfl | rfl
    · exact fw_pos_one kv b w h0 h1 hk np
    · exact fw_pos_two l kv b w h0 h1 hk np d
    · by_cases k5 : kv = 5
      · subst k5
        exact fw_pos_time5 l b w h0 h1 (np (by omega)) d
      · exact fw_pos_timex l kv b w h0 h1 hk np d (by simp; omega)
    · exact fw_pos_real kv b w h0 h1 hk np
    · exact fw_pos_text kv b w h0 h1 hk np m hP
end
end Go.Proofs.YtnklphdogdbiiaaGreatDoor
