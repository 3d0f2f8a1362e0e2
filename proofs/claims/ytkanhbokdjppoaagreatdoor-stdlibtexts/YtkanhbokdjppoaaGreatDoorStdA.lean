/- Which kinds shifts take; no statement of the seat is proved here. -/
import Derived.Test.YtkanhbokdjppoaaGreatDoorStdM
import Derived.Handy
namespace Go.Proofs.YtkanhbokdjppoaaGreatDoor
set_option linter.unusedVariables false
open Go.RowKit
/-- Is a kind one of integers; of bit rows? -/
def intK (k : Int) : Bool := decide (2 ≤ k ∧ k ≤ 9)
def rowK (k : Int) : Bool := decide (10 ≤ k ∧ k ≤ 13)
set_option maxHeartbeats 400000 in
theorem isInteger_of (k : Int) (w : World) : Calls Tryz.prog 107 #[.int .u8 k] w fun e w' => e = .returned (.bool (intK k)) ∧ w' = w := by
  by_cases a : 2 ≤ k <;> by_cases b : k ≤ 9
  all_goals
    go_enter Tryz.func107, Tryz.ntmps107
    go_wp2
    go_ret
    exact ⟨ret_bool (by simp [intK, a, b]), rfl⟩
set_option maxHeartbeats 400000 in
theorem isRow_of (k : Int) (w : World) : Calls Tryz.prog 113 #[.int .u8 k] w fun e w' => e = .returned (.bool (rowK k)) ∧ w' = w := by
  by_cases a : 10 ≤ k <;> by_cases b : k ≤ 13
  all_goals
    go_enter Tryz.func113, Tryz.ntmps113
    go_wp2
    go_ret
    exact ⟨ret_bool (by simp [rowK, a, b]), rfl⟩
set_option maxHeartbeats 400000 in
theorem RowR_of (k : Int) (w : World) : Calls Tryz.prog 21 #[.int .u8 k] w fun e w' => e = .returned (.bool (rowK k)) ∧ w' = w := by
  by_cases a : 10 ≤ k <;> by_cases b : k ≤ 13
  all_goals
    go_enter Tryz.func21, Tryz.ntmps21
    go_wp2
    go_ret
    exact ⟨ret_bool (by simp [rowK, a, b]), rfl⟩
/-- A kind, if it is given at all. -/
def gvK (k : Int) (p : Bool) : Int := if p then k else 0
set_option maxHeartbeats 400000 in
theorem given_of (k : Int) (p : Bool) (w : World) : Calls Tryz.prog 104 #[.int .u8 k, .bool p] w fun e w' => e = .returned (.int .u8 (gvK k p)) ∧ w' = w := by
  cases p
  all_goals
    go_enter Tryz.func104, Tryz.ntmps104
    go_wp2
    go_ret
    exact ⟨rfl, rfl⟩
theorem isInteger_is (k : Int) (w : World) (p : Bool) (h : intK k = p) : Calls Tryz.prog 107 #[.int .u8 k] w fun e w' => e = .returned (.bool p) ∧ w' = w := by subst h; exact isInteger_of k w
theorem isRow_is (k : Int) (w : World) (p : Bool) (h : rowK k = p) : Calls Tryz.prog 113 #[.int .u8 k] w fun e w' => e = .returned (.bool p) ∧ w' = w := by subst h; exact isRow_of k w
set_option maxHeartbeats 1000000 in
theorem shifted_of (hw : Int) (a : Addr) (cap : Nat) (κ : Nat → Int) (w : World) (hk : KsAt w a 2 κ) :
    Calls Tryz.prog 69 #[.int .i64 hw, .slice (some a) 2 cap] w fun e w' => e = .returned (.int .u8 (gvK (κ 0) (rowK (κ 0) && intK (κ 1)))) ∧ Below w.heap.size w w' := by
  have d0 : w.cell? a = some (.int .u8 (κ 0)) := by have := hk 0 (by decide); rwa [Addr.add_zero'] at this
  have d1 : w.cell? ⟨a.block, a.off + 1, none⟩ = some (.int .u8 (κ 1)) := hk 1 (by decide)
  have c0 : ∀ x : Sub w, x.w.cell? a = some (.int .u8 (κ 0)) := fun x => by rw [x.h.cell (block_lt_of_cell d0)]; exact d0
  have c1 : ∀ x : Sub w, x.w.cell? ⟨a.block, a.off + 1, none⟩ = some (.int .u8 (κ 1)) := fun x => by rw [x.h.cell (p := ⟨a.block, a.off + 1, none⟩) (block_lt_of_cell d1)]; exact d1
  clear hk
  cases r : rowK (κ 0) <;> cases i : intK (κ 1)
  all_goals
    have R : Hid _ := r
    have I : Hid _ := i
    clear r i
    go_enter Tryz.func69, Tryz.ntmps69
    go_wp2_with fail
    refine wp_region_sub2 (by kernel_rfl) (by kernel_rfl) ?_
    intro cx
    repeat (first | go_big_quiet_skip | (go_big_quiet_want; go_big_quiet_op; first | go_big_quiet_on | (refine ⟨_, fun _ => rfl, ?_⟩; go_big_quiet_on) | go_big_quiet_call (first | (go_at_call 113; exact calls_sub_same (isRow_is _ _ _ R.out)) | (go_at_call 107; exact calls_sub_same (isInteger_is _ _ _ I.out)) | (go_at_call 104; exact calls_sub_same (given_of _ _ _)))))
    refine wpQuiet_nil ?_
    rintro _ ⟨y, rfl⟩
    have Y : Hid (Below w.heap.size w y.w) := y.h
    clear cx
    go_wp2
    go_ret
    exact ⟨by simp, Y.out⟩
end Go.Proofs.YtkanhbokdjppoaaGreatDoor
