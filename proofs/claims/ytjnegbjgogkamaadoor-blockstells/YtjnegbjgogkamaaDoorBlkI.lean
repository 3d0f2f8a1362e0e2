/- A variable's class; zero values; no statement of the seat is proved here. -/
import Derived.Test.YtjnegbjgogkamaaDoorBlkI0
namespace Go.Proofs.YtjnegbjgogkamaaDoor
set_option linter.unusedVariables false
open Go.RowKit
set_option maxHeartbeats 1000000 in
theorem class_of (nm names ks : ByteArray) (ins outs : Int) (fn : Value) (i : Nat) (w : World) (h1 : 0 ≤ ins ∧ ins ≤ 100) (h2 : 0 ≤ outs ∧ outs ≤ 100) (hi : i ≤ 100) :
    Calls Tryd.prog 27 #[BV nm names ks ins outs fn, .int .i64 i] w fun e w' => e = .returned (.int .i64 (clsN ins outs i)) ∧ Below w.heap.size w w' := by
  have hi' : (i : Int) ≤ 100 := by omega
  obtain ⟨a1, a2⟩ := h1
  obtain ⟨b1, b2⟩ := h2
  by_cases c : (i : Int) < ins
  · have R : Hid (clsN ins outs i = 1) := by show _ = _; simp [clsN, c]
    go_enter Tryd.func27, Tryd.ntmps27
    go_wp2
    go_ret
    exact ⟨ret_int R.out.symm, (Below.refl _ _).alloc (Nat.le_refl _) _⟩
  by_cases d : (i : Int) < ins + outs
  · have R : Hid (clsN ins outs i = 2) := by show _ = _; simp [clsN, c, d]
    go_enter Tryd.func27, Tryd.ntmps27
    go_wp2
    go_ret
    exact ⟨ret_int R.out.symm, (Below.refl _ _).alloc (Nat.le_refl _) _⟩
  · have R : Hid (clsN ins outs i = 4) := by show _ = _; simp [clsN, c, d]
    go_enter Tryd.func27, Tryd.ntmps27
    go_wp2
    go_ret
    exact ⟨ret_int R.out.symm, (Below.refl _ _).alloc (Nat.le_refl _) _⟩
set_option maxHeartbeats 1000000 in
theorem isKind3 (k : Int) (w : World) (h : k = 1 ∨ k = 3 ∨ k = 14) : Calls Tryd.prog 52 #[.int .u8 k] w fun e w' => e = .returned (.bool true) ∧ w' = w := by
  rcases h with rfl | rfl | rfl
  all_goals
    go_enter Tryd.func52, Tryd.ntmps52
    go_wp2
    go_ret
    exact ⟨rfl, rfl⟩
set_option maxHeartbeats 1000000 in
theorem Zero3 (k : Int) (w : World) (h : k = 1 ∨ k = 3 ∨ k = 14) : Calls Tryd.prog 31 #[.int .u8 k] w fun e w' => e = .returned (V k 0 ⟨#[]⟩) ∧ Below w.heap.size w w' := by
  go_enter Tryd.func31, Tryd.ntmps31
  go_wp2_with (go_at_call 52; refine (isKind3 _ _ h).mono ?_; rintro e w' ⟨rfl, rfl⟩)
  refine bodyPost_ret (v := V k 0 ⟨#[]⟩) (by simp [results, Tryd.results31, go_sem]) rfl ⟨rfl, ?_⟩
  go_grown
end Go.Proofs.YtjnegbjgogkamaaDoor
