/- What readSpan answers at the text 1s; no statement of the seat is proved here. -/
import Derived.Test.YtpdnlojennhmpaaDoorAwk2
import Derived.Test.YtpdnlojennhmpaaDoorUp
import Derived.Test.YtpdnlojennhmpaaDoorSubG
namespace Go.Proofs.YtpdnlojennhmpaaDoor
set_option linter.unusedVariables false
open Go.RowKit
theorem up_s (w : World) : Calls Tryd.prog 17 #[.string ss] w fun e w' => e = .returned (.string sS) ∧ Below w.heap.size w w' := by
  have := Tryd.strings_ToUpper_ascii ss w (by decide) (by
    intro j b h
    have : ss.data.toList = [115] := rfl
    rw [this] at h
    cases j with
    | zero => simp at h; subst h; decide
    | succ j => simp at h)
  exact this
theorem UT.below {w w1 : World} {B : Nat} (u : UT w) (h : Below B w w1) (hB : 0 < B) : UT w1 :=
  ⟨(h.cell (p := ⟨0, 0, none⟩) hB).trans u.d, (h.cell (p := ⟨0, 3, none⟩) hB).trans u.h, (h.cell (p := ⟨0, 6, none⟩) hB).trans u.m, (h.cell (p := ⟨0, 9, none⟩) hB).trans u.s, (h.cell (p := ⟨0, 10, none⟩) hB).trans u.n, (h.cell (p := ⟨0, 11, none⟩) hB).trans u.b⟩
theorem UT.pos {w : World} (u : UT w) : 0 < w.heap.size := World.block_lt_of_cell? w ⟨0, 0, none⟩ u.d
theorem bb1 {W w2 : World} {x : Obj} (hb : Below (W.alloc x).heap.size (W.alloc x) w2) : (∀ o, w2.cell? ⟨W.heap.size, o, none⟩ = (W.alloc x).cell? ⟨W.heap.size, o, none⟩) ∧ (∀ o, w2.frozen? ⟨W.heap.size, o, none⟩ = (W.alloc x).frozen? ⟨W.heap.size, o, none⟩) ∧ W.heap.size < w2.heap.size ∧ Below W.heap.size W w2 := by
  have hs := hb.size
  simp at hs
  exact ⟨fun o => hb.cell (p := ⟨W.heap.size, o, none⟩) (by simp), fun o => hb.frozen (p := ⟨W.heap.size, o, none⟩) (by simp), by omega, ((Below.refl _ _).alloc (Nat.le_refl _) _).trans (hb.mono (by simp))⟩
set_option maxHeartbeats 1000000 in
theorem readSpan_1s (w : World) (u : UT w) : Calls Tryd.prog 6 #[.string s1s] w fun e w' => e = .returned (.tuple #[.int .i64 1000000000, .bool true]) ∧ Below w.heap.size w w' := by
  have U : Hid (UT w) := u
  have u0 := u.pos
  clear u
  go_enter Tryd.func6, Tryd.ntmps6
  go_wp2_with (go_at_call 14; refine (pre_a _).mono ?_; rintro e w2 ⟨rfl, rfl⟩)
  refine wp_loop_rounds 2 ?_
  rw [rounds_succ]
  go_wp2_with fail
  refine (cutPart_1s _).mono ?_
  rintro e w3 ⟨rfl, hb3⟩
  have U3 : Hid (UT w3) := U.out.below hb3 u0
  go_wp2_with fail
  refine (up_s _).mono ?_
  rintro e w4 ⟨rfl, hb4⟩
  obtain ⟨c4, f4, z4, B4⟩ := bb1 hb4
  have U4 : Hid (UT w4) := U3.out.below B4 U3.out.pos
  go_wp2_with fail
  refine (findUnit_S _ U4.out).mono ?_
  rintro e w5 ⟨rfl, rfl⟩
  obtain ⟨q0, q1, q2, q3, q4, q5⟩ := U4.out
  have n0 := U4.out.pos
  go_wp2_with fail
  refine wp_region_sub2 (by kernel_rfl) (by kernel_rfl) ?_
  intro cx
  repeat (first | go_big_quiet_skip | (go_big_quiet_want; go_big_quiet_op; first | go_big_quiet_on | (refine ⟨_, fun _ => rfl, ?_⟩; go_big_quiet_on) | go_big_quiet_call (first | (go_at_call 18; exact calls_sub (nanos_1s _)))))
  refine wpQuiet_nil ?_
  rintro _ ⟨x, rfl⟩
  clear cx
  go_wp2
  go_ret2
  exact ⟨rfl, (hb3.trans (B4.mono hb3.size)).trans (x.h.mono (Nat.le_trans hb3.size (Nat.le_of_lt z4)))⟩
end Go.Proofs.YtpdnlojennhmpaaDoor
