/- What times.Parse answers at the text 1s, and that awake answers true; no statement of the seat is proved here. -/
import Derived.Test.YtpdnlojennhmpaaDoorAwk3
import Derived.Test.YtpdnlojennhmpaaDoorDaysB
namespace Go.Proofs.YtpdnlojennhmpaaDoor
set_option linter.unusedVariables false
open Go.RowKit
theorem three_set {W : World} {h : Nat} {x y z : Value} (v0 : W.cell? ⟨h, 0, none⟩ = some x) (v1 : W.cell? ⟨h, 1, none⟩ = some y) (v2 : W.cell? ⟨h, 2, none⟩ = some z) (a b c : Value) :
    (((W.setCell ⟨h, 0, none⟩ a).setCell ⟨h, 1, none⟩ b).setCell ⟨h, 2, none⟩ c).cell? ⟨h, 0, none⟩ = some a ∧ (((W.setCell ⟨h, 0, none⟩ a).setCell ⟨h, 1, none⟩ b).setCell ⟨h, 2, none⟩ c).cell? ⟨h, 1, none⟩ = some b ∧ (((W.setCell ⟨h, 0, none⟩ a).setCell ⟨h, 1, none⟩ b).setCell ⟨h, 2, none⟩ c).cell? ⟨h, 2, none⟩ = some c := by
  refine ⟨?_, ?_, ?_⟩ <;> simp [go_sem, v0, v1, v2]
abbrev VT : Value := .agg #[.int .u8 14, .int .u64 1000000000, .string ⟨#[]⟩]
abbrev NT : Value := .agg #[.bool false, .int .u64 1000000000]
set_option maxHeartbeats 1000000 in
theorem may_T (w : World) : Calls Tryd.prog 55 #[VT] w fun e w' => e = .returned (.bool true) ∧ Below w.heap.size w w' := by
  go_enter Tryd.func55, Tryd.ntmps55
  go_wp2
  go_ret
  exact ⟨rfl, (Below.refl _ _).alloc (Nat.le_refl _) _⟩
set_option maxHeartbeats 1000000 in
theorem from_T (w : World) : Calls Tryd.prog 29 #[.int .i64 1000000000] w fun e w' => e = .returned NT ∧ Below w.heap.size w w' := by
  go_enter Tryd.func29, Tryd.ntmps29
  go_wp2
  exact bodyPost_ret (v := NT) (by simp [results, Tryd.results29, go_sem]) rfl ⟨rfl, (Below.refl _ _).alloc (Nat.le_refl _) _⟩
set_option maxHeartbeats 1000000 in
theorem of_T (w : World) : Calls Tryd.prog 56 #[VT] w fun e w' => e = .returned NT ∧ Below w.heap.size w w' := by
  go_enter Tryd.func56, Tryd.ntmps56
  go_wp2_with (first | (go_at_call 29; refine (from_T _).mono ?_; rintro e w1 ⟨rfl, hb⟩; obtain ⟨c0, c1, f0, f1, B1, z1⟩ := bb2 hb) | go_in)
  refine bodyPost_ret (v := NT) (by simp [results, Tryd.results56, go_sem, c1]) rfl ⟨rfl, ?_⟩
  go_grown
set_option maxHeartbeats 1000000 in
theorem fitted_T (w : World) : Calls Tryd.prog 28 #[.int .u8 14, NT, .int .i64 1] w fun e w' => e = .returned (.tuple #[VT, .int .i64 0]) ∧ Below w.heap.size w w' := by
  go_enter Tryd.func28, Tryd.ntmps28
  go_wp2
  refine wp_region_sub2 (by kernel_rfl) (by kernel_rfl) ?_
  intro cx
  repeat (first | go_big_quiet_skip | (go_big_quiet_want; go_big_quiet_op; first | go_big_quiet_on | (refine ⟨_, fun _ => rfl, ?_⟩; go_big_quiet_on) | go_big_quiet_call (first | (go_at_call 55; exact calls_sub (may_T _)) | (go_at_call 56; exact calls_sub (of_T _)))))
  refine wpQuiet_nil ?_
  rintro _ ⟨x, rfl⟩
  have z0 : w.heap.size < x.w.heap.size ∧ w.heap.size + 1 < x.w.heap.size ∧ w.heap.size + 1 + 1 < x.w.heap.size := by have := x.h.size; simp at this; omega
  obtain ⟨z0, z1, z2⟩ := z0
  have fx := fun b o hb => x.h.frozen (p := ⟨b, o, none⟩) hb
  have cx2 := cx x
  clear cx
  have B : Below w.heap.size w x.w := ((((Below.refl _ _).alloc (Nat.le_refl _) _).alloc (by simp) _).alloc (by simp; omega) _).trans (x.h.mono (by simp; omega))
  go_wp2
  refine bodyPost_ret (v := .tuple #[VT, .int .i64 0]) (by simp [results, Tryd.results28, go_sem, cx2]) rfl ⟨rfl, ?_⟩
  go_grown
set_option maxHeartbeats 1000000 in
theorem Int_T (w : World) : Calls Tryd.prog 10 #[.int .u8 14, .int .i64 1000000000] w fun e w' => e = .returned (.tuple #[VT, .int .i64 0]) ∧ Below w.heap.size w w' := by
  go_enter Tryd.func10, Tryd.ntmps10
  go_wp2_with (first | (go_at_call 29; refine (from_T _).mono ?_; rintro e w1 ⟨rfl, hb⟩; obtain ⟨c1, f1, z1, B1⟩ := bb1 hb) | (go_at_call 28; refine (fitted_T _).mono ?_; rintro e w2 ⟨rfl, hb2⟩; have k2 := (fun o => hb2.cell (p := ⟨w.heap.size, o, none⟩) z1); have j2 := (fun o => hb2.frozen (p := ⟨w.heap.size, o, none⟩) z1)) | go_in)
  have B2 := B1.trans (hb2.mono (Nat.le_of_lt z1))
  refine bodyPost_ret (v := .tuple #[VT, .int .i64 0]) (by simp [results, Tryd.results10, go_sem, k2, c1]) rfl ⟨rfl, ?_⟩
  go_grown
set_option maxHeartbeats 1000000 in
theorem Parse_1s (w : World) (u : UT w) : Calls Tryd.prog 4 #[.int .u8 14, .string s1s] w fun e w' => e = .returned (.tuple #[VT, .bool true]) ∧ Below w.heap.size w w' := by
  have U : Hid (UT w) := u
  have u0 := u.pos
  clear u
  go_enter Tryd.func4, Tryd.ntmps4
  go_wp2_with fail
  refine (readSpan_1s _ (U.out.below ((Below.refl _ _).alloc (Nat.le_refl _) _) u0)).mono ?_
  rintro e w1 ⟨rfl, hb⟩
  obtain ⟨c1, f1, z1, B1⟩ := bb1 hb
  go_wp2_with fail
  refine (Int_T _).mono ?_
  rintro e w2 ⟨rfl, hb2⟩
  have k2 := (fun o => hb2.cell (p := ⟨w.heap.size, o, none⟩) z1)
  have j2 := (fun o => hb2.frozen (p := ⟨w.heap.size, o, none⟩) z1)
  have z2 := Nat.lt_of_lt_of_le z1 hb2.size
  have B2 := B1.trans (hb2.mono (Nat.le_of_lt z1))
  go_wp2
  have v0 : w2.cell? ⟨w.heap.size, 0, none⟩ = some (.int .u8 0) := by rw [k2, c1]; simp
  have v1 : w2.cell? ⟨w.heap.size, 1, none⟩ = some (.int .u64 0) := by rw [k2, c1]; simp
  have v2 : w2.cell? ⟨w.heap.size, 2, none⟩ = some (.string ⟨#[]⟩) := by rw [k2, c1]; simp
  obtain ⟨g0, g1, g2⟩ := three_set v0 v1 v2 (.int .u8 14) (.int .u64 1000000000) (.string ⟨#[]⟩)
  refine bodyPost_ret (v := .tuple #[VT, .bool true]) (by simp [results, Tryd.results4, go_sem, g0, g1, g2, World.cell?_alloc_some]) rfl ⟨rfl, ?_⟩
  go_grown
end Go.Proofs.YtpdnlojennhmpaaDoor
