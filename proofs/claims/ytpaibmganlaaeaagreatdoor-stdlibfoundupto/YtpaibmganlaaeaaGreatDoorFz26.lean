/- What the document's Result answers for two kinds that are one; no statement of the seat is proved here. -/
import Derived.Test.YtpaibmganlaaeaaGreatDoorFz07
namespace Go.Proofs.YtpaibmganlaaeaaGreatDoor
set_option linter.unusedVariables false
open Go.RowKit
set_option maxRecDepth 100000 in
set_option maxHeartbeats 16000000 in
theorem Result_t (op : Int) (w : World)  :
    Calls Tryz.prog 30 #[.int .i64 op, .int .u8 14, .int .u8 14] w fun e w' => e = .returned (.int .u8 (resK op 14 14)) ∧ w' = w := by
  generalize hr : resK op 14 14 = r
  have R : Hid (resK op 14 14 = r) := hr
  clear hr
  rcases ops9 op with o | rfl | rfl | rfl | rfl | rfl | ⟨o, o'⟩ | ⟨o, o'⟩ | o
  all_goals
    (try have p1 : (op == 1) = false := by simp; omega)
    (try have p2 : (op == 2) = false := by simp; omega)
    (try have p3 : (op == 3) = false := by simp; omega)
    (try have p4 : (op == 4) = false := by simp; omega)
    go_enter Tryz.func30, Tryz.ntmps30
    go_wp2
    all_goals
      go_ret
      refine ⟨ret_int ?_, rfl⟩
      rw [← R.out]
      go_light
      unfold resK
      (repeat' split) <;> first | rfl | omega
set_option maxRecDepth 100000 in
set_option maxHeartbeats 16000000 in
theorem Result_d3 (op k : Int) (w : World) (h : 15 ≤ k) (h' : k ≤ 17) :
    Calls Tryz.prog 30 #[.int .i64 op, .int .u8 k, .int .u8 k] w fun e w' => e = .returned (.int .u8 (resK op k k)) ∧ w' = w := by
  generalize hr : resK op k k = r
  have R : Hid (resK op k k = r) := hr
  clear hr
  have k1 : (k == 1) = false := by simp; omega
  have k14 : (k == 14) = false := by simp; omega
  have k18 : (k == 18) = false := by simp; omega
  rcases ops9 op with o | rfl | rfl | rfl | rfl | rfl | ⟨o, o'⟩ | ⟨o, o'⟩ | o
  all_goals
    (try have p1 : (op == 1) = false := by simp; omega)
    (try have p2 : (op == 2) = false := by simp; omega)
    (try have p3 : (op == 3) = false := by simp; omega)
    (try have p4 : (op == 4) = false := by simp; omega)
    go_enter Tryz.func30, Tryz.ntmps30
    go_wp2
    all_goals
      go_ret
      refine ⟨ret_int ?_, rfl⟩
      rw [← R.out]
      go_light
      unfold resK
      (repeat' split) <;> first | rfl | omega
end Go.Proofs.YtpaibmganlaaeaaGreatDoor
