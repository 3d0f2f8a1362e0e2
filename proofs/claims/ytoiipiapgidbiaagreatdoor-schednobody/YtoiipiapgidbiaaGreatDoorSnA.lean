/- What a resource that no call made answers; no statement of the seat is proved here. -/
import Derived.Test.YtoiipiapgidbiaaGreatDoorSubG
import Derived.Handy
import Derived.Deep.WholeRow
import Derived.Laws.CopyOwn
namespace Go.Proofs.YtoiipiapgidbiaaGreatDoor
set_option linter.unusedVariables false
set_option linter.unusedSimpArgs false
open Go.RowKit
/-- A pointer to nothing, or to a record whose third cell points to nothing. -/
def RnN (w : World) (v : Value) : Prop := v = .pointer none ∨ ∃ g, v = .pointer (some ⟨g, 0, none⟩) ∧ w.cell? ⟨g, 2, none⟩ = some (.pointer none)
theorem RnN.below {w w' : World} {v : Value} (h : RnN w v) (hb : Below w.heap.size w w') : RnN w' v := by
  rcases h with h | ⟨g, h, hc⟩
  · exact .inl h
  · exact .inr ⟨g, h, (hb.cell (p := ⟨g, 2, none⟩) (block_lt_of_cell hc)).trans hc⟩
section
variable (r : Value) (w : World) (hr : RnN w r)
include hr
theorem asked0_no (v f : Value) : Calls Tryz.prog 16 #[r, v, f] w fun e w' => e = .returned v ∧ Below w.heap.size w w' := by
  rcases hr with rfl | ⟨g, rfl, hc⟩
  all_goals
    go_enter Tryz.func16, Tryz.ntmps16
    go_wp2
    go_ret
    exact ⟨rfl, Below.refl _ _⟩
theorem asked1_no (v f : Value) : Calls Tryz.prog 26 #[r, v, f] w fun e w' => e = .returned v ∧ Below w.heap.size w w' := by
  rcases hr with rfl | ⟨g, rfl, hc⟩
  all_goals
    go_enter Tryz.func26, Tryz.ntmps26
    go_wp2
    go_ret
    exact ⟨rfl, Below.refl _ _⟩
theorem asked2_no (v f : Value) : Calls Tryz.prog 29 #[r, v, f] w fun e w' => e = .returned v ∧ Below w.heap.size w w' := by
  rcases hr with rfl | ⟨g, rfl, hc⟩
  all_goals
    go_enter Tryz.func29, Tryz.ntmps29
    go_wp2
    go_ret
    exact ⟨rfl, Below.refl _ _⟩
theorem asked3_no (v f : Value) : Calls Tryz.prog 31 #[r, v, f] w fun e w' => e = .returned v ∧ Below w.heap.size w w' := by
  rcases hr with rfl | ⟨g, rfl, hc⟩
  all_goals
    go_enter Tryz.func31, Tryz.ntmps31
    go_wp2
    go_ret
    exact ⟨rfl, Below.refl _ _⟩
theorem RStart_no : Calls Tryz.prog 7 #[r] w fun e w' => e = .returned (.int .i64 8) ∧ Below w.heap.size w w' := by
  go_enter Tryz.func7, Tryz.ntmps7
  go_wp2_with fail
  refine (asked0_no r _ (hr.below (by go_grown)) _ _).mono ?_
  rintro e w1 ⟨rfl, hb⟩
  go_wp2
  go_ret
  exact ⟨rfl, by first | exact hb | exact (((Below.refl _ _).alloc (Nat.le_refl _) _).alloc (by simp) _).trans (hb.mono (by simp; omega)) | exact ((Below.refl _ _).alloc (Nat.le_refl _) _).trans (hb.mono (by simp)) | go_grown⟩
theorem RStop_no : Calls Tryz.prog 8 #[r] w fun e w' => e = .returned (.int .i64 8) ∧ Below w.heap.size w w' := by
  go_enter Tryz.func8, Tryz.ntmps8
  go_wp2_with fail
  refine (asked0_no r _ (hr.below (by go_grown)) _ _).mono ?_
  rintro e w1 ⟨rfl, hb⟩
  go_wp2
  go_ret
  exact ⟨rfl, by first | exact hb | exact (((Below.refl _ _).alloc (Nat.le_refl _) _).alloc (by simp) _).trans (hb.mono (by simp; omega)) | exact ((Below.refl _ _).alloc (Nat.le_refl _) _).trans (hb.mono (by simp)) | go_grown⟩
theorem RReset_no (b : Bool) : Calls Tryz.prog 9 #[r, .bool b] w fun e w' => e = .returned (.int .i64 8) ∧ Below w.heap.size w w' := by
  go_enter Tryz.func9, Tryz.ntmps9
  go_wp2_with fail
  refine (asked0_no r _ (hr.below (by go_grown)) _ _).mono ?_
  rintro e w1 ⟨rfl, hb⟩
  go_wp2
  go_ret
  exact ⟨rfl, by first | exact hb | exact (((Below.refl _ _).alloc (Nat.le_refl _) _).alloc (by simp) _).trans (hb.mono (by simp; omega)) | exact ((Below.refl _ _).alloc (Nat.le_refl _) _).trans (hb.mono (by simp)) | go_grown⟩
theorem RPoke_no (n k b : Int) (s : ByteArray) : Calls Tryz.prog 10 #[r, .int .i64 n, .agg #[.int .u8 k, .int .u64 b, .string s]] w fun e w' => e = .returned (.int .i64 8) ∧ Below w.heap.size w w' := by
  go_enter Tryz.func10, Tryz.ntmps10
  go_wp2_with fail
  refine (asked0_no r _ (hr.below (by go_grown)) _ _).mono ?_
  rintro e w1 ⟨rfl, hb⟩
  go_wp2
  go_ret
  exact ⟨rfl, by first | exact hb | exact (((Below.refl _ _).alloc (Nat.le_refl _) _).alloc (by simp) _).trans (hb.mono (by simp; omega)) | exact ((Below.refl _ _).alloc (Nat.le_refl _) _).trans (hb.mono (by simp)) | go_grown⟩
theorem RNow_no : Calls Tryz.prog 11 #[r] w fun e w' => e = .returned (.int .i64 0) ∧ Below w.heap.size w w' := by
  go_enter Tryz.func11, Tryz.ntmps11
  go_wp2_with fail
  refine (asked1_no r _ (hr.below (by go_grown)) _ _).mono ?_
  rintro e w1 ⟨rfl, hb⟩
  go_wp2
  go_ret
  exact ⟨rfl, by first | exact hb | exact (((Below.refl _ _).alloc (Nat.le_refl _) _).alloc (by simp) _).trans (hb.mono (by simp; omega)) | exact ((Below.refl _ _).alloc (Nat.le_refl _) _).trans (hb.mono (by simp)) | go_grown⟩
theorem RMode_no : Calls Tryz.prog 12 #[r] w fun e w' => e = .returned (.int .i64 0) ∧ Below w.heap.size w w' := by
  go_enter Tryz.func12, Tryz.ntmps12
  go_wp2_with fail
  refine (asked1_no r _ (hr.below (by go_grown)) _ _).mono ?_
  rintro e w1 ⟨rfl, hb⟩
  go_wp2
  go_ret
  exact ⟨rfl, by first | exact hb | exact (((Below.refl _ _).alloc (Nat.le_refl _) _).alloc (by simp) _).trans (hb.mono (by simp; omega)) | exact ((Below.refl _ _).alloc (Nat.le_refl _) _).trans (hb.mono (by simp)) | go_grown⟩
theorem RCells_no : Calls Tryz.prog 13 #[r] w fun e w' => e = .returned (.slice none 0 0) ∧ Below w.heap.size w w' := by
  go_enter Tryz.func13, Tryz.ntmps13
  go_wp2_with fail
  refine (asked2_no r _ (hr.below (by go_grown)) _ _).mono ?_
  rintro e w1 ⟨rfl, hb⟩
  go_wp2
  go_ret
  exact ⟨rfl, by first | exact hb | exact (((Below.refl _ _).alloc (Nat.le_refl _) _).alloc (by simp) _).trans (hb.mono (by simp; omega)) | exact ((Below.refl _ _).alloc (Nat.le_refl _) _).trans (hb.mono (by simp)) | go_grown⟩
theorem ROutputs_no : Calls Tryz.prog 14 #[r] w fun e w' => e = .returned (.slice none 0 0) ∧ Below w.heap.size w w' := by
  go_enter Tryz.func14, Tryz.ntmps14
  go_wp2_with fail
  refine (asked3_no r _ (hr.below (by go_grown)) _ _).mono ?_
  rintro e w1 ⟨rfl, hb⟩
  go_wp2
  go_ret
  exact ⟨rfl, by first | exact hb | exact (((Below.refl _ _).alloc (Nat.le_refl _) _).alloc (by simp) _).trans (hb.mono (by simp; omega)) | exact ((Below.refl _ _).alloc (Nat.le_refl _) _).trans (hb.mono (by simp)) | go_grown⟩
end
end Go.Proofs.YtoiipiapgidbiaaGreatDoor
