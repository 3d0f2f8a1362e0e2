/- What times.Print and the document's answer of every value; no statement of the seat is proved here. -/
import Derived.Test.YtpdnlojennhmpaaGreatDoorPrT
namespace Go.Proofs.YtpdnlojennhmpaaGreatDoor
set_option linter.unusedVariables false
open Go.RowKit
section
variable (k b : Int) (s : ByteArray) (w : World)
set_option maxRecDepth 100000 in
set_option maxHeartbeats 2000000 in
theorem tp_17 (h0 : 0 ≤ b) (h1 : b < 18446744073709551616) (x y : ByteArray) (hx : x.size ≤ 200) (hy : y.size ≤ 200) (C : Hid (∀ w1, Below w.heap.size w w1 → Calls Tryz.prog 11 #[.int .u64 b] w1 fun e w' => e = .returned (.string x) ∧ Below w1.heap.size w1 w')) (D : Hid (∀ w1, Below w.heap.size w w1 → Calls Tryz.prog 12 #[.int .u64 (b % 86400000000000)] w1 fun e w' => e = .returned (.string y) ∧ Below w1.heap.size w1 w')) (M : Hid (MayT 17 b s true)) : Calls Tryz.prog 4 #[V 17 b s] w fun e w' => e = .returned (.string (⟨#[68, 84, 35]⟩ ++ x ++ ⟨#[45]⟩ ++ y)) ∧ Below w.heap.size w w' := by
  go_enter Tryz.func4, Tryz.ntmps4
  go_wp2_with fail
  refine (M.out _).mono ?_
  rintro e w1 ⟨rfl, hb⟩
  have B : Hid (Below w.heap.size w w1) := ((Below.refl _ _).alloc (Nat.le_refl _) _).trans (hb.mono (by simp))
  obtain ⟨l0, c00, c01, c02⟩ := (Lies.new w 17 b s _).next hb
  clear hb
  go_wp2_with fail
  have CC : Hid (∀ z : Sub w1, Calls Tryz.prog 11 #[.int .u64 b] z.w fun e w'' => e = .returned (.string x) ∧ ∃ z' : Sub w1, w'' = z'.w) := fun z => calls_sub (C.out z.w (B.out.trans (z.h.mono B.out.size)))
  have DD : Hid (∀ z : Sub w1, Calls Tryz.prog 12 #[.int .u64 (b % 86400000000000)] z.w fun e w'' => e = .returned (.string y) ∧ ∃ z' : Sub w1, w'' = z'.w) := fun z => calls_sub (D.out z.w (B.out.trans (z.h.mono B.out.size)))
  clear C D
  refine wp_region_sub2 (by kernel_rfl) (by kernel_rfl) ?_
  intro cx
  repeat (first | go_big_quiet_skip | (go_big_quiet_want; go_big_quiet_op; first | go_big_quiet_on | (refine ⟨_, fun _ => rfl, ?_⟩; go_big_quiet_on) | go_big_quiet_call (first
    | (go_at_call 11; exact CC.out _)
    | (go_at_call 12; exact DD.out _))))
  refine wpQuiet_nil ?_
  rintro _ ⟨z, rfl⟩
  have B5 : Hid (Below w.heap.size w z.w) := B.out.trans (z.h.mono B.out.size)
  clear cx
  go_wp2
  go_ret
  exact ⟨rfl, B5.out⟩
end
end Go.Proofs.YtpdnlojennhmpaaGreatDoor
