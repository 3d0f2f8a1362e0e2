/- A resource of nothing: the parts of an entry; no statement of the seat is proved here. -/
import Derived.Test.YtoiipiapgidbiaaGreatDoorSnK
namespace Go.Proofs.YtoiipiapgidbiaaGreatDoor
set_option linter.unusedVariables false
set_option linter.unusedSimpArgs false
open Go.RowKit
theorem clI0_nilT (w : World) : (binOp .eql 26 (.slice none 0 0) (.slice none 0 0)).run Tryz.prog w = .ok (.bool true) w := by kernel_rfl
theorem clI0 (w : World) : Calls Tryz.prog 5 #[.slice none 0 0] w fun e w' => e = .returned (.slice none 0 0) ∧ Below w.heap.size w w' := by
  have sn := clI0_nilT
  go_enter Tryz.func5, Tryz.ntmps5
  go_wp2
  go_ret
  exact ⟨rfl, Below.refl _ _⟩
set_option maxRecDepth 20000 in
theorem takes_E (g : Nat) (w : World) : Calls Tryz.prog 37 #[.pointer (some ⟨g, 0, none⟩), .slice none 0 0] w fun e w' => e = .returned (.bool true) ∧ w' = w := by
  go_enter Tryz.func37, Tryz.ntmps37
  go_upto_region 2 with fail
  go_loopw [11] (fun i wr => i = .int .i64 0 ∧ wr = w) (fun _ _ => 0)
  case atStart => exact ⟨rfl, rfl⟩
  case round =>
    obtain ⟨rfl, rfl⟩ := hrel
    go_wp2
    go_ret
    exact ⟨rfl, rfl⟩
set_option maxRecDepth 20000 in
theorem callT_E (g : Nat) (o t m f a : Value) (w : World) (h : TkAt w g o t m f) : Calls Tryz.prog 38 #[.pointer (some ⟨g, 0, none⟩), a] w fun e w' => e = .returned (.tuple #[]) ∧ w' = w.setCell ⟨g, 8, none⟩ (.bool false) := by
  obtain ⟨c0, c4, c5, c6, c7, c8, fz⟩ := tkR h
  clear h
  go_enter Tryz.func38, Tryz.ntmps38
  go_upto_region 1 with fail
  go_loopw [11] (fun i wr => i = .int .i64 0 ∧ wr = w) (fun _ _ => 0)
  case atStart => exact ⟨rfl, rfl⟩
  case round =>
    obtain ⟨rfl, rfl⟩ := hrel
    go_wp2
    go_end0
    exact ⟨rfl, rfl⟩
set_option maxRecDepth 20000 in
theorem next_E (g : Nat) (o t m f : Value) (w : World) (h : TkAt w g o t m f) : Calls Tryz.prog 57 #[.pointer (some ⟨g, 0, none⟩)] w fun e w' => e = .returned (.pointer none) ∧ w' = w := by
  obtain ⟨c0, c4, c5, c6, c7, c8, fz⟩ := tkR h
  clear h
  go_enter Tryz.func57, Tryz.ntmps57
  go_upto_region 3 with fail
  go_loopw [3, 11] (fun p i wr => p = .pointer none ∧ i = .int .i64 0 ∧ wr = w) (fun _ _ _ => 0)
  case atStart => exact ⟨rfl, rfl, rfl⟩
  case round =>
    obtain ⟨rfl, rfl, rfl⟩ := hrel
    go_wp2
    go_ret
    exact ⟨rfl, rfl⟩
set_option maxRecDepth 20000 in
theorem work_E (g : Nat) (o t m f r : Value) (w : World) (h : TkAt w g o t m f) : Calls Tryz.prog 39 #[.pointer (some ⟨g, 0, none⟩), r] w fun e w' => e = .returned (.tuple #[]) ∧ w' = w := by
  go_enter Tryz.func39, Tryz.ntmps39
  go_wp2_with fail
  refine (next_E g o t m f w h).mono ?_
  rintro e w1 ⟨rfl, rfl⟩
  go_upto_region 1 with fail
  go_loopw [4] (fun i wr => i = .pointer none ∧ wr = w1) (fun _ _ => 0)
  case atStart => exact ⟨rfl, rfl⟩
  case round =>
    obtain ⟨rfl, rfl⟩ := hrel
    go_wp2
    go_end0
    exact ⟨rfl, rfl⟩
end Go.Proofs.YtoiipiapgidbiaaGreatDoor
