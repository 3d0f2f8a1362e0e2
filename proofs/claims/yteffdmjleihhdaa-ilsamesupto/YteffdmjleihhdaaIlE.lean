/- il's sameness of instructions; no statement of the seat is proved here. -/
import Derived.Test.YteffdmjleihhdaaIlB
import Derived.Test.YteffdmjleihhdaaTrU
import Derived.Deep.RegionHeld3
import Derived.Deep.DeepCutAuto
import Derived.Handy
namespace Go.Proofs.Yteffdmjleihhdaa
set_option linter.unusedVariables false
open Go.RowKit
/-- The call's value. -/
abbrev CV (h : IH) (a1 a2 a3 a4 : Value) : Value := SV ⟨10, 0, h.nm, 0, 0, 0, 0⟩ a1 a2 a3 a4 (.slice none 0 0) (.slice none 0 0) (.slice none 0 0)
theorem st_infoI : (Try.prog.info? 38).map (·.size) = some 14 := by kernel_rfl
set_option maxHeartbeats 1000000 in
theorem call_of (h : IH) (x1 x2 x3 x4 : Option Addr) (n1 n2 n3 n4 c1 c2 c3 c4 : Nat) (w : World) : Calls Try.prog 18 #[IV h (.slice x1 n1 c1) (.slice x2 n2 c2) (.slice x3 n3 c3) (.slice x4 n4 c4)] w fun e w' => e = .returned (CV h (.slice x1 n1 c1) (.slice x2 n2 c2) (.slice x3 n3 c3) (.slice x4 n4 c4)) ∧ Below w.heap.size w w' := by
  go_enter Try.func18, Try.ntmps18
  go_wp2
  refine bodyPost_ret (v := CV h (.slice x1 n1 c1) (.slice x2 n2 c2) (.slice x3 n3 c3) (.slice x4 n4 c4)) (results_cell_row Try.results18 _ _ (w.heap.size + 1) _ _ (0, 0) _ (by simp) (by have q := heap_alloc_last (w.alloc (.cells #[.int .i64 h.pl, .string h.lb, .string h.op, .bool h.nt, .bool h.cd, .bool h.ob, .string h.nm, .slice x1 n1 c1, .slice x2 n2 c2, .slice x3 n3 c3, .slice x4 n4 c4] 28)) (.cells #[.int .i64 10, .int .i64 0, .string h.nm, .int .i64 0, .slice x1 n1 c1, .slice x2 n2 c2, .slice x3 n3 c3, .slice x4 n4 c4, .slice none 0 0, .slice none 0 0, .slice none 0 0, .int .u8 0, .int .i64 0, .int .i64 0] 38); rw [show (w.alloc (.cells #[.int .i64 h.pl, .string h.lb, .string h.op, .bool h.nt, .bool h.cd, .bool h.ob, .string h.nm, .slice x1 n1 c1, .slice x2 n2 c2, .slice x3 n3 c3, .slice x4 n4 c4] 28)).heap.size = w.heap.size + 1 by simp] at q; exact q) Try.underlying38 rfl st_infoI) rfl ?_
  exact ⟨rfl, ((Below.refl _ _).alloc (Nat.le_refl _) _).alloc (by simp) _⟩
section
variable (h h' : IH) (x1 x2 x3 x4 y1 y2 y3 y4 : Option Addr) (n1 n2 n3 n4 c1 c2 c3 c4 m1 m2 m3 m4 e1 e2 e3 e4 : Nat) (w : World)
set_option maxRecDepth 20000 in
set_option maxHeartbeats 4000000 in
theorem diffI_0 (f1 : (h.lb.toList == h'.lb.toList) = false) : Calls Try.prog 11 #[IV h (.slice x1 n1 c1) (.slice x2 n2 c2) (.slice x3 n3 c3) (.slice x4 n4 c4), IV h' (.slice y1 m1 e1) (.slice y2 m2 e2) (.slice y3 m3 e3) (.slice y4 m4 e4)] w fun e w' => e = .returned (.bool false) ∧ Below w.heap.size w w' := by
  obtain ⟨W, eW⟩ : ∃ W, W = (w.alloc (.cells #[.int .i64 h.pl, .string h.lb, .string h.op, .bool h.nt, .bool h.cd, .bool h.ob, .string h.nm, .slice x1 n1 c1, .slice x2 n2 c2, .slice x3 n3 c3, .slice x4 n4 c4] 28)).alloc (.cells #[.int .i64 h'.pl, .string h'.lb, .string h'.op, .bool h'.nt, .bool h'.cd, .bool h'.ob, .string h'.nm, .slice y1 m1 e1, .slice y2 m2 e2, .slice y3 m3 e3, .slice y4 m4 e4] 28) := ⟨_, rfl⟩
  have BW : Hid (Below w.heap.size w W) := by rw [eW]; exact ((Below.refl _ _).alloc (Nat.le_refl _) _).alloc (by simp) _
  have zA : w.heap.size < W.heap.size := by rw [eW]; simp; omega
  have zB : w.heap.size + 1 < W.heap.size := by rw [eW]; simp
  have a0 : W.cell? ⟨w.heap.size, 0, none⟩ = some (.int .i64 h.pl) := by rw [eW]; simp
  have b0 : W.cell? ⟨w.heap.size + 1, 0, none⟩ = some (.int .i64 h'.pl) := by rw [eW]; simp
  have a1 : W.cell? ⟨w.heap.size, 1, none⟩ = some (.string h.lb) := by rw [eW]; simp
  have b1 : W.cell? ⟨w.heap.size + 1, 1, none⟩ = some (.string h'.lb) := by rw [eW]; simp
  have a2 : W.cell? ⟨w.heap.size, 2, none⟩ = some (.string h.op) := by rw [eW]; simp
  have b2 : W.cell? ⟨w.heap.size + 1, 2, none⟩ = some (.string h'.op) := by rw [eW]; simp
  have a3 : W.cell? ⟨w.heap.size, 3, none⟩ = some (.bool h.nt) := by rw [eW]; simp
  have b3 : W.cell? ⟨w.heap.size + 1, 3, none⟩ = some (.bool h'.nt) := by rw [eW]; simp
  have a4 : W.cell? ⟨w.heap.size, 4, none⟩ = some (.bool h.cd) := by rw [eW]; simp
  have b4 : W.cell? ⟨w.heap.size + 1, 4, none⟩ = some (.bool h'.cd) := by rw [eW]; simp
  have a5 : W.cell? ⟨w.heap.size, 5, none⟩ = some (.bool h.ob) := by rw [eW]; simp
  have b5 : W.cell? ⟨w.heap.size + 1, 5, none⟩ = some (.bool h'.ob) := by rw [eW]; simp
  have a6 : W.cell? ⟨w.heap.size, 6, none⟩ = some (.string h.nm) := by rw [eW]; simp
  have b6 : W.cell? ⟨w.heap.size + 1, 6, none⟩ = some (.string h'.nm) := by rw [eW]; simp
  have a7 : W.cell? ⟨w.heap.size, 7, none⟩ = some (.slice x1 n1 c1) := by rw [eW]; simp
  have b7 : W.cell? ⟨w.heap.size + 1, 7, none⟩ = some (.slice y1 m1 e1) := by rw [eW]; simp
  have a8 : W.cell? ⟨w.heap.size, 8, none⟩ = some (.slice x2 n2 c2) := by rw [eW]; simp
  have b8 : W.cell? ⟨w.heap.size + 1, 8, none⟩ = some (.slice y2 m2 e2) := by rw [eW]; simp
  have a9 : W.cell? ⟨w.heap.size, 9, none⟩ = some (.slice x3 n3 c3) := by rw [eW]; simp
  have b9 : W.cell? ⟨w.heap.size + 1, 9, none⟩ = some (.slice y3 m3 e3) := by rw [eW]; simp
  have a10 : W.cell? ⟨w.heap.size, 10, none⟩ = some (.slice x4 n4 c4) := by rw [eW]; simp
  have b10 : W.cell? ⟨w.heap.size + 1, 10, none⟩ = some (.slice y4 m4 e4) := by rw [eW]; simp
  go_enter Try.func11, Try.ntmps11
  go_wp2_with fail
  rw [← eW]
  clear eW
  refine wp_region_sub2 (by kernel_rfl) (by kernel_rfl) ?_
  intro cx
  have p0 : ∀ z : Sub W, z.w.cell? ⟨w.heap.size, 0, none⟩ = some (.int .i64 h.pl) := fun z => (cx z _ 0 zA).trans a0
  have q0 : ∀ z : Sub W, z.w.cell? ⟨w.heap.size + 1, 0, none⟩ = some (.int .i64 h'.pl) := fun z => (cx z _ 0 zB).trans b0
  have p1 : ∀ z : Sub W, z.w.cell? ⟨w.heap.size, 1, none⟩ = some (.string h.lb) := fun z => (cx z _ 1 zA).trans a1
  have q1 : ∀ z : Sub W, z.w.cell? ⟨w.heap.size + 1, 1, none⟩ = some (.string h'.lb) := fun z => (cx z _ 1 zB).trans b1
  have p2 : ∀ z : Sub W, z.w.cell? ⟨w.heap.size, 2, none⟩ = some (.string h.op) := fun z => (cx z _ 2 zA).trans a2
  have q2 : ∀ z : Sub W, z.w.cell? ⟨w.heap.size + 1, 2, none⟩ = some (.string h'.op) := fun z => (cx z _ 2 zB).trans b2
  have p3 : ∀ z : Sub W, z.w.cell? ⟨w.heap.size, 3, none⟩ = some (.bool h.nt) := fun z => (cx z _ 3 zA).trans a3
  have q3 : ∀ z : Sub W, z.w.cell? ⟨w.heap.size + 1, 3, none⟩ = some (.bool h'.nt) := fun z => (cx z _ 3 zB).trans b3
  have p4 : ∀ z : Sub W, z.w.cell? ⟨w.heap.size, 4, none⟩ = some (.bool h.cd) := fun z => (cx z _ 4 zA).trans a4
  have q4 : ∀ z : Sub W, z.w.cell? ⟨w.heap.size + 1, 4, none⟩ = some (.bool h'.cd) := fun z => (cx z _ 4 zB).trans b4
  have p5 : ∀ z : Sub W, z.w.cell? ⟨w.heap.size, 5, none⟩ = some (.bool h.ob) := fun z => (cx z _ 5 zA).trans a5
  have q5 : ∀ z : Sub W, z.w.cell? ⟨w.heap.size + 1, 5, none⟩ = some (.bool h'.ob) := fun z => (cx z _ 5 zB).trans b5
  have p6 : ∀ z : Sub W, z.w.cell? ⟨w.heap.size, 6, none⟩ = some (.string h.nm) := fun z => (cx z _ 6 zA).trans a6
  have q6 : ∀ z : Sub W, z.w.cell? ⟨w.heap.size + 1, 6, none⟩ = some (.string h'.nm) := fun z => (cx z _ 6 zB).trans b6
  have p7 : ∀ z : Sub W, z.w.cell? ⟨w.heap.size, 7, none⟩ = some (.slice x1 n1 c1) := fun z => (cx z _ 7 zA).trans a7
  have q7 : ∀ z : Sub W, z.w.cell? ⟨w.heap.size + 1, 7, none⟩ = some (.slice y1 m1 e1) := fun z => (cx z _ 7 zB).trans b7
  have p8 : ∀ z : Sub W, z.w.cell? ⟨w.heap.size, 8, none⟩ = some (.slice x2 n2 c2) := fun z => (cx z _ 8 zA).trans a8
  have q8 : ∀ z : Sub W, z.w.cell? ⟨w.heap.size + 1, 8, none⟩ = some (.slice y2 m2 e2) := fun z => (cx z _ 8 zB).trans b8
  have p9 : ∀ z : Sub W, z.w.cell? ⟨w.heap.size, 9, none⟩ = some (.slice x3 n3 c3) := fun z => (cx z _ 9 zA).trans a9
  have q9 : ∀ z : Sub W, z.w.cell? ⟨w.heap.size + 1, 9, none⟩ = some (.slice y3 m3 e3) := fun z => (cx z _ 9 zB).trans b9
  have p10 : ∀ z : Sub W, z.w.cell? ⟨w.heap.size, 10, none⟩ = some (.slice x4 n4 c4) := fun z => (cx z _ 10 zA).trans a10
  have q10 : ∀ z : Sub W, z.w.cell? ⟨w.heap.size + 1, 10, none⟩ = some (.slice y4 m4 e4) := fun z => (cx z _ 10 zB).trans b10
  clear cx a0 b0 a1 b1 a2 b2 a3 b3 a4 b4 a5 b5 a6 b6 a7 b7 a8 b8 a9 b9 a10 b10
  repeat (first | go_big_quiet_skip | (go_big_quiet_want; go_big_quiet_op; first | go_big_quiet_on | (refine ⟨_, fun _ => rfl, ?_⟩; go_big_quiet_on)))
  refine wpQuiet_nil ?_
  rintro _ ⟨z, rfl⟩
  have B5 : Hid (Below w.heap.size w z.w) := BW.out.trans (z.h.mono BW.out.size)
  generalize z.w = w5 at *
  clear p0 q0 p1 q1 p2 q2 p3 q3 p4 q4 p5 q5 p6 q6 p7 q7 p8 q8 p9 q9 p10 q10 zA zB
  go_wp2
  go_ret
  exact ⟨rfl, B5.out⟩
set_option maxRecDepth 20000 in
set_option maxHeartbeats 4000000 in
theorem diffI_1 (f1 : (h.lb.toList == h'.lb.toList) = true) (f2 : (h.op.toList == h'.op.toList) = false) : Calls Try.prog 11 #[IV h (.slice x1 n1 c1) (.slice x2 n2 c2) (.slice x3 n3 c3) (.slice x4 n4 c4), IV h' (.slice y1 m1 e1) (.slice y2 m2 e2) (.slice y3 m3 e3) (.slice y4 m4 e4)] w fun e w' => e = .returned (.bool false) ∧ Below w.heap.size w w' := by
  obtain ⟨W, eW⟩ : ∃ W, W = (w.alloc (.cells #[.int .i64 h.pl, .string h.lb, .string h.op, .bool h.nt, .bool h.cd, .bool h.ob, .string h.nm, .slice x1 n1 c1, .slice x2 n2 c2, .slice x3 n3 c3, .slice x4 n4 c4] 28)).alloc (.cells #[.int .i64 h'.pl, .string h'.lb, .string h'.op, .bool h'.nt, .bool h'.cd, .bool h'.ob, .string h'.nm, .slice y1 m1 e1, .slice y2 m2 e2, .slice y3 m3 e3, .slice y4 m4 e4] 28) := ⟨_, rfl⟩
  have BW : Hid (Below w.heap.size w W) := by rw [eW]; exact ((Below.refl _ _).alloc (Nat.le_refl _) _).alloc (by simp) _
  have zA : w.heap.size < W.heap.size := by rw [eW]; simp; omega
  have zB : w.heap.size + 1 < W.heap.size := by rw [eW]; simp
  have a0 : W.cell? ⟨w.heap.size, 0, none⟩ = some (.int .i64 h.pl) := by rw [eW]; simp
  have b0 : W.cell? ⟨w.heap.size + 1, 0, none⟩ = some (.int .i64 h'.pl) := by rw [eW]; simp
  have a1 : W.cell? ⟨w.heap.size, 1, none⟩ = some (.string h.lb) := by rw [eW]; simp
  have b1 : W.cell? ⟨w.heap.size + 1, 1, none⟩ = some (.string h'.lb) := by rw [eW]; simp
  have a2 : W.cell? ⟨w.heap.size, 2, none⟩ = some (.string h.op) := by rw [eW]; simp
  have b2 : W.cell? ⟨w.heap.size + 1, 2, none⟩ = some (.string h'.op) := by rw [eW]; simp
  have a3 : W.cell? ⟨w.heap.size, 3, none⟩ = some (.bool h.nt) := by rw [eW]; simp
  have b3 : W.cell? ⟨w.heap.size + 1, 3, none⟩ = some (.bool h'.nt) := by rw [eW]; simp
  have a4 : W.cell? ⟨w.heap.size, 4, none⟩ = some (.bool h.cd) := by rw [eW]; simp
  have b4 : W.cell? ⟨w.heap.size + 1, 4, none⟩ = some (.bool h'.cd) := by rw [eW]; simp
  have a5 : W.cell? ⟨w.heap.size, 5, none⟩ = some (.bool h.ob) := by rw [eW]; simp
  have b5 : W.cell? ⟨w.heap.size + 1, 5, none⟩ = some (.bool h'.ob) := by rw [eW]; simp
  have a6 : W.cell? ⟨w.heap.size, 6, none⟩ = some (.string h.nm) := by rw [eW]; simp
  have b6 : W.cell? ⟨w.heap.size + 1, 6, none⟩ = some (.string h'.nm) := by rw [eW]; simp
  have a7 : W.cell? ⟨w.heap.size, 7, none⟩ = some (.slice x1 n1 c1) := by rw [eW]; simp
  have b7 : W.cell? ⟨w.heap.size + 1, 7, none⟩ = some (.slice y1 m1 e1) := by rw [eW]; simp
  have a8 : W.cell? ⟨w.heap.size, 8, none⟩ = some (.slice x2 n2 c2) := by rw [eW]; simp
  have b8 : W.cell? ⟨w.heap.size + 1, 8, none⟩ = some (.slice y2 m2 e2) := by rw [eW]; simp
  have a9 : W.cell? ⟨w.heap.size, 9, none⟩ = some (.slice x3 n3 c3) := by rw [eW]; simp
  have b9 : W.cell? ⟨w.heap.size + 1, 9, none⟩ = some (.slice y3 m3 e3) := by rw [eW]; simp
  have a10 : W.cell? ⟨w.heap.size, 10, none⟩ = some (.slice x4 n4 c4) := by rw [eW]; simp
  have b10 : W.cell? ⟨w.heap.size + 1, 10, none⟩ = some (.slice y4 m4 e4) := by rw [eW]; simp
  go_enter Try.func11, Try.ntmps11
  go_wp2_with fail
  rw [← eW]
  clear eW
  refine wp_region_sub2 (by kernel_rfl) (by kernel_rfl) ?_
  intro cx
  have p0 : ∀ z : Sub W, z.w.cell? ⟨w.heap.size, 0, none⟩ = some (.int .i64 h.pl) := fun z => (cx z _ 0 zA).trans a0
  have q0 : ∀ z : Sub W, z.w.cell? ⟨w.heap.size + 1, 0, none⟩ = some (.int .i64 h'.pl) := fun z => (cx z _ 0 zB).trans b0
  have p1 : ∀ z : Sub W, z.w.cell? ⟨w.heap.size, 1, none⟩ = some (.string h.lb) := fun z => (cx z _ 1 zA).trans a1
  have q1 : ∀ z : Sub W, z.w.cell? ⟨w.heap.size + 1, 1, none⟩ = some (.string h'.lb) := fun z => (cx z _ 1 zB).trans b1
  have p2 : ∀ z : Sub W, z.w.cell? ⟨w.heap.size, 2, none⟩ = some (.string h.op) := fun z => (cx z _ 2 zA).trans a2
  have q2 : ∀ z : Sub W, z.w.cell? ⟨w.heap.size + 1, 2, none⟩ = some (.string h'.op) := fun z => (cx z _ 2 zB).trans b2
  have p3 : ∀ z : Sub W, z.w.cell? ⟨w.heap.size, 3, none⟩ = some (.bool h.nt) := fun z => (cx z _ 3 zA).trans a3
  have q3 : ∀ z : Sub W, z.w.cell? ⟨w.heap.size + 1, 3, none⟩ = some (.bool h'.nt) := fun z => (cx z _ 3 zB).trans b3
  have p4 : ∀ z : Sub W, z.w.cell? ⟨w.heap.size, 4, none⟩ = some (.bool h.cd) := fun z => (cx z _ 4 zA).trans a4
  have q4 : ∀ z : Sub W, z.w.cell? ⟨w.heap.size + 1, 4, none⟩ = some (.bool h'.cd) := fun z => (cx z _ 4 zB).trans b4
  have p5 : ∀ z : Sub W, z.w.cell? ⟨w.heap.size, 5, none⟩ = some (.bool h.ob) := fun z => (cx z _ 5 zA).trans a5
  have q5 : ∀ z : Sub W, z.w.cell? ⟨w.heap.size + 1, 5, none⟩ = some (.bool h'.ob) := fun z => (cx z _ 5 zB).trans b5
  have p6 : ∀ z : Sub W, z.w.cell? ⟨w.heap.size, 6, none⟩ = some (.string h.nm) := fun z => (cx z _ 6 zA).trans a6
  have q6 : ∀ z : Sub W, z.w.cell? ⟨w.heap.size + 1, 6, none⟩ = some (.string h'.nm) := fun z => (cx z _ 6 zB).trans b6
  have p7 : ∀ z : Sub W, z.w.cell? ⟨w.heap.size, 7, none⟩ = some (.slice x1 n1 c1) := fun z => (cx z _ 7 zA).trans a7
  have q7 : ∀ z : Sub W, z.w.cell? ⟨w.heap.size + 1, 7, none⟩ = some (.slice y1 m1 e1) := fun z => (cx z _ 7 zB).trans b7
  have p8 : ∀ z : Sub W, z.w.cell? ⟨w.heap.size, 8, none⟩ = some (.slice x2 n2 c2) := fun z => (cx z _ 8 zA).trans a8
  have q8 : ∀ z : Sub W, z.w.cell? ⟨w.heap.size + 1, 8, none⟩ = some (.slice y2 m2 e2) := fun z => (cx z _ 8 zB).trans b8
  have p9 : ∀ z : Sub W, z.w.cell? ⟨w.heap.size, 9, none⟩ = some (.slice x3 n3 c3) := fun z => (cx z _ 9 zA).trans a9
  have q9 : ∀ z : Sub W, z.w.cell? ⟨w.heap.size + 1, 9, none⟩ = some (.slice y3 m3 e3) := fun z => (cx z _ 9 zB).trans b9
  have p10 : ∀ z : Sub W, z.w.cell? ⟨w.heap.size, 10, none⟩ = some (.slice x4 n4 c4) := fun z => (cx z _ 10 zA).trans a10
  have q10 : ∀ z : Sub W, z.w.cell? ⟨w.heap.size + 1, 10, none⟩ = some (.slice y4 m4 e4) := fun z => (cx z _ 10 zB).trans b10
  clear cx a0 b0 a1 b1 a2 b2 a3 b3 a4 b4 a5 b5 a6 b6 a7 b7 a8 b8 a9 b9 a10 b10
  repeat (first | go_big_quiet_skip | (go_big_quiet_want; go_big_quiet_op; first | go_big_quiet_on | (refine ⟨_, fun _ => rfl, ?_⟩; go_big_quiet_on)))
  refine wpQuiet_nil ?_
  rintro _ ⟨z, rfl⟩
  have B5 : Hid (Below w.heap.size w z.w) := BW.out.trans (z.h.mono BW.out.size)
  generalize z.w = w5 at *
  clear p0 q0 p1 q1 p2 q2 p3 q3 p4 q4 p5 q5 p6 q6 p7 q7 p8 q8 p9 q9 p10 q10 zA zB
  go_wp2
  go_ret
  exact ⟨rfl, B5.out⟩
set_option maxRecDepth 20000 in
set_option maxHeartbeats 4000000 in
theorem diffI_2 (f1 : (h.lb.toList == h'.lb.toList) = true) (f2 : (h.op.toList == h'.op.toList) = true) (f3 : (h.nt == h'.nt) = false) : Calls Try.prog 11 #[IV h (.slice x1 n1 c1) (.slice x2 n2 c2) (.slice x3 n3 c3) (.slice x4 n4 c4), IV h' (.slice y1 m1 e1) (.slice y2 m2 e2) (.slice y3 m3 e3) (.slice y4 m4 e4)] w fun e w' => e = .returned (.bool false) ∧ Below w.heap.size w w' := by
  obtain ⟨W, eW⟩ : ∃ W, W = (w.alloc (.cells #[.int .i64 h.pl, .string h.lb, .string h.op, .bool h.nt, .bool h.cd, .bool h.ob, .string h.nm, .slice x1 n1 c1, .slice x2 n2 c2, .slice x3 n3 c3, .slice x4 n4 c4] 28)).alloc (.cells #[.int .i64 h'.pl, .string h'.lb, .string h'.op, .bool h'.nt, .bool h'.cd, .bool h'.ob, .string h'.nm, .slice y1 m1 e1, .slice y2 m2 e2, .slice y3 m3 e3, .slice y4 m4 e4] 28) := ⟨_, rfl⟩
  have BW : Hid (Below w.heap.size w W) := by rw [eW]; exact ((Below.refl _ _).alloc (Nat.le_refl _) _).alloc (by simp) _
  have zA : w.heap.size < W.heap.size := by rw [eW]; simp; omega
  have zB : w.heap.size + 1 < W.heap.size := by rw [eW]; simp
  have a0 : W.cell? ⟨w.heap.size, 0, none⟩ = some (.int .i64 h.pl) := by rw [eW]; simp
  have b0 : W.cell? ⟨w.heap.size + 1, 0, none⟩ = some (.int .i64 h'.pl) := by rw [eW]; simp
  have a1 : W.cell? ⟨w.heap.size, 1, none⟩ = some (.string h.lb) := by rw [eW]; simp
  have b1 : W.cell? ⟨w.heap.size + 1, 1, none⟩ = some (.string h'.lb) := by rw [eW]; simp
  have a2 : W.cell? ⟨w.heap.size, 2, none⟩ = some (.string h.op) := by rw [eW]; simp
  have b2 : W.cell? ⟨w.heap.size + 1, 2, none⟩ = some (.string h'.op) := by rw [eW]; simp
  have a3 : W.cell? ⟨w.heap.size, 3, none⟩ = some (.bool h.nt) := by rw [eW]; simp
  have b3 : W.cell? ⟨w.heap.size + 1, 3, none⟩ = some (.bool h'.nt) := by rw [eW]; simp
  have a4 : W.cell? ⟨w.heap.size, 4, none⟩ = some (.bool h.cd) := by rw [eW]; simp
  have b4 : W.cell? ⟨w.heap.size + 1, 4, none⟩ = some (.bool h'.cd) := by rw [eW]; simp
  have a5 : W.cell? ⟨w.heap.size, 5, none⟩ = some (.bool h.ob) := by rw [eW]; simp
  have b5 : W.cell? ⟨w.heap.size + 1, 5, none⟩ = some (.bool h'.ob) := by rw [eW]; simp
  have a6 : W.cell? ⟨w.heap.size, 6, none⟩ = some (.string h.nm) := by rw [eW]; simp
  have b6 : W.cell? ⟨w.heap.size + 1, 6, none⟩ = some (.string h'.nm) := by rw [eW]; simp
  have a7 : W.cell? ⟨w.heap.size, 7, none⟩ = some (.slice x1 n1 c1) := by rw [eW]; simp
  have b7 : W.cell? ⟨w.heap.size + 1, 7, none⟩ = some (.slice y1 m1 e1) := by rw [eW]; simp
  have a8 : W.cell? ⟨w.heap.size, 8, none⟩ = some (.slice x2 n2 c2) := by rw [eW]; simp
  have b8 : W.cell? ⟨w.heap.size + 1, 8, none⟩ = some (.slice y2 m2 e2) := by rw [eW]; simp
  have a9 : W.cell? ⟨w.heap.size, 9, none⟩ = some (.slice x3 n3 c3) := by rw [eW]; simp
  have b9 : W.cell? ⟨w.heap.size + 1, 9, none⟩ = some (.slice y3 m3 e3) := by rw [eW]; simp
  have a10 : W.cell? ⟨w.heap.size, 10, none⟩ = some (.slice x4 n4 c4) := by rw [eW]; simp
  have b10 : W.cell? ⟨w.heap.size + 1, 10, none⟩ = some (.slice y4 m4 e4) := by rw [eW]; simp
  go_enter Try.func11, Try.ntmps11
  go_wp2_with fail
  rw [← eW]
  clear eW
  refine wp_region_sub2 (by kernel_rfl) (by kernel_rfl) ?_
  intro cx
  have p0 : ∀ z : Sub W, z.w.cell? ⟨w.heap.size, 0, none⟩ = some (.int .i64 h.pl) := fun z => (cx z _ 0 zA).trans a0
  have q0 : ∀ z : Sub W, z.w.cell? ⟨w.heap.size + 1, 0, none⟩ = some (.int .i64 h'.pl) := fun z => (cx z _ 0 zB).trans b0
  have p1 : ∀ z : Sub W, z.w.cell? ⟨w.heap.size, 1, none⟩ = some (.string h.lb) := fun z => (cx z _ 1 zA).trans a1
  have q1 : ∀ z : Sub W, z.w.cell? ⟨w.heap.size + 1, 1, none⟩ = some (.string h'.lb) := fun z => (cx z _ 1 zB).trans b1
  have p2 : ∀ z : Sub W, z.w.cell? ⟨w.heap.size, 2, none⟩ = some (.string h.op) := fun z => (cx z _ 2 zA).trans a2
  have q2 : ∀ z : Sub W, z.w.cell? ⟨w.heap.size + 1, 2, none⟩ = some (.string h'.op) := fun z => (cx z _ 2 zB).trans b2
  have p3 : ∀ z : Sub W, z.w.cell? ⟨w.heap.size, 3, none⟩ = some (.bool h.nt) := fun z => (cx z _ 3 zA).trans a3
  have q3 : ∀ z : Sub W, z.w.cell? ⟨w.heap.size + 1, 3, none⟩ = some (.bool h'.nt) := fun z => (cx z _ 3 zB).trans b3
  have p4 : ∀ z : Sub W, z.w.cell? ⟨w.heap.size, 4, none⟩ = some (.bool h.cd) := fun z => (cx z _ 4 zA).trans a4
  have q4 : ∀ z : Sub W, z.w.cell? ⟨w.heap.size + 1, 4, none⟩ = some (.bool h'.cd) := fun z => (cx z _ 4 zB).trans b4
  have p5 : ∀ z : Sub W, z.w.cell? ⟨w.heap.size, 5, none⟩ = some (.bool h.ob) := fun z => (cx z _ 5 zA).trans a5
  have q5 : ∀ z : Sub W, z.w.cell? ⟨w.heap.size + 1, 5, none⟩ = some (.bool h'.ob) := fun z => (cx z _ 5 zB).trans b5
  have p6 : ∀ z : Sub W, z.w.cell? ⟨w.heap.size, 6, none⟩ = some (.string h.nm) := fun z => (cx z _ 6 zA).trans a6
  have q6 : ∀ z : Sub W, z.w.cell? ⟨w.heap.size + 1, 6, none⟩ = some (.string h'.nm) := fun z => (cx z _ 6 zB).trans b6
  have p7 : ∀ z : Sub W, z.w.cell? ⟨w.heap.size, 7, none⟩ = some (.slice x1 n1 c1) := fun z => (cx z _ 7 zA).trans a7
  have q7 : ∀ z : Sub W, z.w.cell? ⟨w.heap.size + 1, 7, none⟩ = some (.slice y1 m1 e1) := fun z => (cx z _ 7 zB).trans b7
  have p8 : ∀ z : Sub W, z.w.cell? ⟨w.heap.size, 8, none⟩ = some (.slice x2 n2 c2) := fun z => (cx z _ 8 zA).trans a8
  have q8 : ∀ z : Sub W, z.w.cell? ⟨w.heap.size + 1, 8, none⟩ = some (.slice y2 m2 e2) := fun z => (cx z _ 8 zB).trans b8
  have p9 : ∀ z : Sub W, z.w.cell? ⟨w.heap.size, 9, none⟩ = some (.slice x3 n3 c3) := fun z => (cx z _ 9 zA).trans a9
  have q9 : ∀ z : Sub W, z.w.cell? ⟨w.heap.size + 1, 9, none⟩ = some (.slice y3 m3 e3) := fun z => (cx z _ 9 zB).trans b9
  have p10 : ∀ z : Sub W, z.w.cell? ⟨w.heap.size, 10, none⟩ = some (.slice x4 n4 c4) := fun z => (cx z _ 10 zA).trans a10
  have q10 : ∀ z : Sub W, z.w.cell? ⟨w.heap.size + 1, 10, none⟩ = some (.slice y4 m4 e4) := fun z => (cx z _ 10 zB).trans b10
  clear cx a0 b0 a1 b1 a2 b2 a3 b3 a4 b4 a5 b5 a6 b6 a7 b7 a8 b8 a9 b9 a10 b10
  repeat (first | go_big_quiet_skip | (go_big_quiet_want; go_big_quiet_op; first | go_big_quiet_on | (refine ⟨_, fun _ => rfl, ?_⟩; go_big_quiet_on)))
  refine wpQuiet_nil ?_
  rintro _ ⟨z, rfl⟩
  have B5 : Hid (Below w.heap.size w z.w) := BW.out.trans (z.h.mono BW.out.size)
  generalize z.w = w5 at *
  clear p0 q0 p1 q1 p2 q2 p3 q3 p4 q4 p5 q5 p6 q6 p7 q7 p8 q8 p9 q9 p10 q10 zA zB
  go_wp2
  go_ret
  exact ⟨rfl, B5.out⟩
set_option maxRecDepth 20000 in
set_option maxHeartbeats 4000000 in
theorem diffI_3 (f1 : (h.lb.toList == h'.lb.toList) = true) (f2 : (h.op.toList == h'.op.toList) = true) (f3 : (h.nt == h'.nt) = true) (f4 : (h.cd == h'.cd) = false) : Calls Try.prog 11 #[IV h (.slice x1 n1 c1) (.slice x2 n2 c2) (.slice x3 n3 c3) (.slice x4 n4 c4), IV h' (.slice y1 m1 e1) (.slice y2 m2 e2) (.slice y3 m3 e3) (.slice y4 m4 e4)] w fun e w' => e = .returned (.bool false) ∧ Below w.heap.size w w' := by
  obtain ⟨W, eW⟩ : ∃ W, W = (w.alloc (.cells #[.int .i64 h.pl, .string h.lb, .string h.op, .bool h.nt, .bool h.cd, .bool h.ob, .string h.nm, .slice x1 n1 c1, .slice x2 n2 c2, .slice x3 n3 c3, .slice x4 n4 c4] 28)).alloc (.cells #[.int .i64 h'.pl, .string h'.lb, .string h'.op, .bool h'.nt, .bool h'.cd, .bool h'.ob, .string h'.nm, .slice y1 m1 e1, .slice y2 m2 e2, .slice y3 m3 e3, .slice y4 m4 e4] 28) := ⟨_, rfl⟩
  have BW : Hid (Below w.heap.size w W) := by rw [eW]; exact ((Below.refl _ _).alloc (Nat.le_refl _) _).alloc (by simp) _
  have zA : w.heap.size < W.heap.size := by rw [eW]; simp; omega
  have zB : w.heap.size + 1 < W.heap.size := by rw [eW]; simp
  have a0 : W.cell? ⟨w.heap.size, 0, none⟩ = some (.int .i64 h.pl) := by rw [eW]; simp
  have b0 : W.cell? ⟨w.heap.size + 1, 0, none⟩ = some (.int .i64 h'.pl) := by rw [eW]; simp
  have a1 : W.cell? ⟨w.heap.size, 1, none⟩ = some (.string h.lb) := by rw [eW]; simp
  have b1 : W.cell? ⟨w.heap.size + 1, 1, none⟩ = some (.string h'.lb) := by rw [eW]; simp
  have a2 : W.cell? ⟨w.heap.size, 2, none⟩ = some (.string h.op) := by rw [eW]; simp
  have b2 : W.cell? ⟨w.heap.size + 1, 2, none⟩ = some (.string h'.op) := by rw [eW]; simp
  have a3 : W.cell? ⟨w.heap.size, 3, none⟩ = some (.bool h.nt) := by rw [eW]; simp
  have b3 : W.cell? ⟨w.heap.size + 1, 3, none⟩ = some (.bool h'.nt) := by rw [eW]; simp
  have a4 : W.cell? ⟨w.heap.size, 4, none⟩ = some (.bool h.cd) := by rw [eW]; simp
  have b4 : W.cell? ⟨w.heap.size + 1, 4, none⟩ = some (.bool h'.cd) := by rw [eW]; simp
  have a5 : W.cell? ⟨w.heap.size, 5, none⟩ = some (.bool h.ob) := by rw [eW]; simp
  have b5 : W.cell? ⟨w.heap.size + 1, 5, none⟩ = some (.bool h'.ob) := by rw [eW]; simp
  have a6 : W.cell? ⟨w.heap.size, 6, none⟩ = some (.string h.nm) := by rw [eW]; simp
  have b6 : W.cell? ⟨w.heap.size + 1, 6, none⟩ = some (.string h'.nm) := by rw [eW]; simp
  have a7 : W.cell? ⟨w.heap.size, 7, none⟩ = some (.slice x1 n1 c1) := by rw [eW]; simp
  have b7 : W.cell? ⟨w.heap.size + 1, 7, none⟩ = some (.slice y1 m1 e1) := by rw [eW]; simp
  have a8 : W.cell? ⟨w.heap.size, 8, none⟩ = some (.slice x2 n2 c2) := by rw [eW]; simp
  have b8 : W.cell? ⟨w.heap.size + 1, 8, none⟩ = some (.slice y2 m2 e2) := by rw [eW]; simp
  have a9 : W.cell? ⟨w.heap.size, 9, none⟩ = some (.slice x3 n3 c3) := by rw [eW]; simp
  have b9 : W.cell? ⟨w.heap.size + 1, 9, none⟩ = some (.slice y3 m3 e3) := by rw [eW]; simp
  have a10 : W.cell? ⟨w.heap.size, 10, none⟩ = some (.slice x4 n4 c4) := by rw [eW]; simp
  have b10 : W.cell? ⟨w.heap.size + 1, 10, none⟩ = some (.slice y4 m4 e4) := by rw [eW]; simp
  go_enter Try.func11, Try.ntmps11
  go_wp2_with fail
  rw [← eW]
  clear eW
  refine wp_region_sub2 (by kernel_rfl) (by kernel_rfl) ?_
  intro cx
  have p0 : ∀ z : Sub W, z.w.cell? ⟨w.heap.size, 0, none⟩ = some (.int .i64 h.pl) := fun z => (cx z _ 0 zA).trans a0
  have q0 : ∀ z : Sub W, z.w.cell? ⟨w.heap.size + 1, 0, none⟩ = some (.int .i64 h'.pl) := fun z => (cx z _ 0 zB).trans b0
  have p1 : ∀ z : Sub W, z.w.cell? ⟨w.heap.size, 1, none⟩ = some (.string h.lb) := fun z => (cx z _ 1 zA).trans a1
  have q1 : ∀ z : Sub W, z.w.cell? ⟨w.heap.size + 1, 1, none⟩ = some (.string h'.lb) := fun z => (cx z _ 1 zB).trans b1
  have p2 : ∀ z : Sub W, z.w.cell? ⟨w.heap.size, 2, none⟩ = some (.string h.op) := fun z => (cx z _ 2 zA).trans a2
  have q2 : ∀ z : Sub W, z.w.cell? ⟨w.heap.size + 1, 2, none⟩ = some (.string h'.op) := fun z => (cx z _ 2 zB).trans b2
  have p3 : ∀ z : Sub W, z.w.cell? ⟨w.heap.size, 3, none⟩ = some (.bool h.nt) := fun z => (cx z _ 3 zA).trans a3
  have q3 : ∀ z : Sub W, z.w.cell? ⟨w.heap.size + 1, 3, none⟩ = some (.bool h'.nt) := fun z => (cx z _ 3 zB).trans b3
  have p4 : ∀ z : Sub W, z.w.cell? ⟨w.heap.size, 4, none⟩ = some (.bool h.cd) := fun z => (cx z _ 4 zA).trans a4
  have q4 : ∀ z : Sub W, z.w.cell? ⟨w.heap.size + 1, 4, none⟩ = some (.bool h'.cd) := fun z => (cx z _ 4 zB).trans b4
  have p5 : ∀ z : Sub W, z.w.cell? ⟨w.heap.size, 5, none⟩ = some (.bool h.ob) := fun z => (cx z _ 5 zA).trans a5
  have q5 : ∀ z : Sub W, z.w.cell? ⟨w.heap.size + 1, 5, none⟩ = some (.bool h'.ob) := fun z => (cx z _ 5 zB).trans b5
  have p6 : ∀ z : Sub W, z.w.cell? ⟨w.heap.size, 6, none⟩ = some (.string h.nm) := fun z => (cx z _ 6 zA).trans a6
  have q6 : ∀ z : Sub W, z.w.cell? ⟨w.heap.size + 1, 6, none⟩ = some (.string h'.nm) := fun z => (cx z _ 6 zB).trans b6
  have p7 : ∀ z : Sub W, z.w.cell? ⟨w.heap.size, 7, none⟩ = some (.slice x1 n1 c1) := fun z => (cx z _ 7 zA).trans a7
  have q7 : ∀ z : Sub W, z.w.cell? ⟨w.heap.size + 1, 7, none⟩ = some (.slice y1 m1 e1) := fun z => (cx z _ 7 zB).trans b7
  have p8 : ∀ z : Sub W, z.w.cell? ⟨w.heap.size, 8, none⟩ = some (.slice x2 n2 c2) := fun z => (cx z _ 8 zA).trans a8
  have q8 : ∀ z : Sub W, z.w.cell? ⟨w.heap.size + 1, 8, none⟩ = some (.slice y2 m2 e2) := fun z => (cx z _ 8 zB).trans b8
  have p9 : ∀ z : Sub W, z.w.cell? ⟨w.heap.size, 9, none⟩ = some (.slice x3 n3 c3) := fun z => (cx z _ 9 zA).trans a9
  have q9 : ∀ z : Sub W, z.w.cell? ⟨w.heap.size + 1, 9, none⟩ = some (.slice y3 m3 e3) := fun z => (cx z _ 9 zB).trans b9
  have p10 : ∀ z : Sub W, z.w.cell? ⟨w.heap.size, 10, none⟩ = some (.slice x4 n4 c4) := fun z => (cx z _ 10 zA).trans a10
  have q10 : ∀ z : Sub W, z.w.cell? ⟨w.heap.size + 1, 10, none⟩ = some (.slice y4 m4 e4) := fun z => (cx z _ 10 zB).trans b10
  clear cx a0 b0 a1 b1 a2 b2 a3 b3 a4 b4 a5 b5 a6 b6 a7 b7 a8 b8 a9 b9 a10 b10
  repeat (first | go_big_quiet_skip | (go_big_quiet_want; go_big_quiet_op; first | go_big_quiet_on | (refine ⟨_, fun _ => rfl, ?_⟩; go_big_quiet_on)))
  refine wpQuiet_nil ?_
  rintro _ ⟨z, rfl⟩
  have B5 : Hid (Below w.heap.size w z.w) := BW.out.trans (z.h.mono BW.out.size)
  generalize z.w = w5 at *
  clear p0 q0 p1 q1 p2 q2 p3 q3 p4 q4 p5 q5 p6 q6 p7 q7 p8 q8 p9 q9 p10 q10 zA zB
  go_wp2
  go_ret
  exact ⟨rfl, B5.out⟩
set_option maxRecDepth 20000 in
set_option maxHeartbeats 4000000 in
theorem diffI_4 (f1 : (h.lb.toList == h'.lb.toList) = true) (f2 : (h.op.toList == h'.op.toList) = true) (f3 : (h.nt == h'.nt) = true) (f4 : (h.cd == h'.cd) = true) (f5 : (h.ob == h'.ob) = false) : Calls Try.prog 11 #[IV h (.slice x1 n1 c1) (.slice x2 n2 c2) (.slice x3 n3 c3) (.slice x4 n4 c4), IV h' (.slice y1 m1 e1) (.slice y2 m2 e2) (.slice y3 m3 e3) (.slice y4 m4 e4)] w fun e w' => e = .returned (.bool false) ∧ Below w.heap.size w w' := by
  obtain ⟨W, eW⟩ : ∃ W, W = (w.alloc (.cells #[.int .i64 h.pl, .string h.lb, .string h.op, .bool h.nt, .bool h.cd, .bool h.ob, .string h.nm, .slice x1 n1 c1, .slice x2 n2 c2, .slice x3 n3 c3, .slice x4 n4 c4] 28)).alloc (.cells #[.int .i64 h'.pl, .string h'.lb, .string h'.op, .bool h'.nt, .bool h'.cd, .bool h'.ob, .string h'.nm, .slice y1 m1 e1, .slice y2 m2 e2, .slice y3 m3 e3, .slice y4 m4 e4] 28) := ⟨_, rfl⟩
  have BW : Hid (Below w.heap.size w W) := by rw [eW]; exact ((Below.refl _ _).alloc (Nat.le_refl _) _).alloc (by simp) _
  have zA : w.heap.size < W.heap.size := by rw [eW]; simp; omega
  have zB : w.heap.size + 1 < W.heap.size := by rw [eW]; simp
  have a0 : W.cell? ⟨w.heap.size, 0, none⟩ = some (.int .i64 h.pl) := by rw [eW]; simp
  have b0 : W.cell? ⟨w.heap.size + 1, 0, none⟩ = some (.int .i64 h'.pl) := by rw [eW]; simp
  have a1 : W.cell? ⟨w.heap.size, 1, none⟩ = some (.string h.lb) := by rw [eW]; simp
  have b1 : W.cell? ⟨w.heap.size + 1, 1, none⟩ = some (.string h'.lb) := by rw [eW]; simp
  have a2 : W.cell? ⟨w.heap.size, 2, none⟩ = some (.string h.op) := by rw [eW]; simp
  have b2 : W.cell? ⟨w.heap.size + 1, 2, none⟩ = some (.string h'.op) := by rw [eW]; simp
  have a3 : W.cell? ⟨w.heap.size, 3, none⟩ = some (.bool h.nt) := by rw [eW]; simp
  have b3 : W.cell? ⟨w.heap.size + 1, 3, none⟩ = some (.bool h'.nt) := by rw [eW]; simp
  have a4 : W.cell? ⟨w.heap.size, 4, none⟩ = some (.bool h.cd) := by rw [eW]; simp
  have b4 : W.cell? ⟨w.heap.size + 1, 4, none⟩ = some (.bool h'.cd) := by rw [eW]; simp
  have a5 : W.cell? ⟨w.heap.size, 5, none⟩ = some (.bool h.ob) := by rw [eW]; simp
  have b5 : W.cell? ⟨w.heap.size + 1, 5, none⟩ = some (.bool h'.ob) := by rw [eW]; simp
  have a6 : W.cell? ⟨w.heap.size, 6, none⟩ = some (.string h.nm) := by rw [eW]; simp
  have b6 : W.cell? ⟨w.heap.size + 1, 6, none⟩ = some (.string h'.nm) := by rw [eW]; simp
  have a7 : W.cell? ⟨w.heap.size, 7, none⟩ = some (.slice x1 n1 c1) := by rw [eW]; simp
  have b7 : W.cell? ⟨w.heap.size + 1, 7, none⟩ = some (.slice y1 m1 e1) := by rw [eW]; simp
  have a8 : W.cell? ⟨w.heap.size, 8, none⟩ = some (.slice x2 n2 c2) := by rw [eW]; simp
  have b8 : W.cell? ⟨w.heap.size + 1, 8, none⟩ = some (.slice y2 m2 e2) := by rw [eW]; simp
  have a9 : W.cell? ⟨w.heap.size, 9, none⟩ = some (.slice x3 n3 c3) := by rw [eW]; simp
  have b9 : W.cell? ⟨w.heap.size + 1, 9, none⟩ = some (.slice y3 m3 e3) := by rw [eW]; simp
  have a10 : W.cell? ⟨w.heap.size, 10, none⟩ = some (.slice x4 n4 c4) := by rw [eW]; simp
  have b10 : W.cell? ⟨w.heap.size + 1, 10, none⟩ = some (.slice y4 m4 e4) := by rw [eW]; simp
  go_enter Try.func11, Try.ntmps11
  go_wp2_with fail
  rw [← eW]
  clear eW
  refine wp_region_sub2 (by kernel_rfl) (by kernel_rfl) ?_
  intro cx
  have p0 : ∀ z : Sub W, z.w.cell? ⟨w.heap.size, 0, none⟩ = some (.int .i64 h.pl) := fun z => (cx z _ 0 zA).trans a0
  have q0 : ∀ z : Sub W, z.w.cell? ⟨w.heap.size + 1, 0, none⟩ = some (.int .i64 h'.pl) := fun z => (cx z _ 0 zB).trans b0
  have p1 : ∀ z : Sub W, z.w.cell? ⟨w.heap.size, 1, none⟩ = some (.string h.lb) := fun z => (cx z _ 1 zA).trans a1
  have q1 : ∀ z : Sub W, z.w.cell? ⟨w.heap.size + 1, 1, none⟩ = some (.string h'.lb) := fun z => (cx z _ 1 zB).trans b1
  have p2 : ∀ z : Sub W, z.w.cell? ⟨w.heap.size, 2, none⟩ = some (.string h.op) := fun z => (cx z _ 2 zA).trans a2
  have q2 : ∀ z : Sub W, z.w.cell? ⟨w.heap.size + 1, 2, none⟩ = some (.string h'.op) := fun z => (cx z _ 2 zB).trans b2
  have p3 : ∀ z : Sub W, z.w.cell? ⟨w.heap.size, 3, none⟩ = some (.bool h.nt) := fun z => (cx z _ 3 zA).trans a3
  have q3 : ∀ z : Sub W, z.w.cell? ⟨w.heap.size + 1, 3, none⟩ = some (.bool h'.nt) := fun z => (cx z _ 3 zB).trans b3
  have p4 : ∀ z : Sub W, z.w.cell? ⟨w.heap.size, 4, none⟩ = some (.bool h.cd) := fun z => (cx z _ 4 zA).trans a4
  have q4 : ∀ z : Sub W, z.w.cell? ⟨w.heap.size + 1, 4, none⟩ = some (.bool h'.cd) := fun z => (cx z _ 4 zB).trans b4
  have p5 : ∀ z : Sub W, z.w.cell? ⟨w.heap.size, 5, none⟩ = some (.bool h.ob) := fun z => (cx z _ 5 zA).trans a5
  have q5 : ∀ z : Sub W, z.w.cell? ⟨w.heap.size + 1, 5, none⟩ = some (.bool h'.ob) := fun z => (cx z _ 5 zB).trans b5
  have p6 : ∀ z : Sub W, z.w.cell? ⟨w.heap.size, 6, none⟩ = some (.string h.nm) := fun z => (cx z _ 6 zA).trans a6
  have q6 : ∀ z : Sub W, z.w.cell? ⟨w.heap.size + 1, 6, none⟩ = some (.string h'.nm) := fun z => (cx z _ 6 zB).trans b6
  have p7 : ∀ z : Sub W, z.w.cell? ⟨w.heap.size, 7, none⟩ = some (.slice x1 n1 c1) := fun z => (cx z _ 7 zA).trans a7
  have q7 : ∀ z : Sub W, z.w.cell? ⟨w.heap.size + 1, 7, none⟩ = some (.slice y1 m1 e1) := fun z => (cx z _ 7 zB).trans b7
  have p8 : ∀ z : Sub W, z.w.cell? ⟨w.heap.size, 8, none⟩ = some (.slice x2 n2 c2) := fun z => (cx z _ 8 zA).trans a8
  have q8 : ∀ z : Sub W, z.w.cell? ⟨w.heap.size + 1, 8, none⟩ = some (.slice y2 m2 e2) := fun z => (cx z _ 8 zB).trans b8
  have p9 : ∀ z : Sub W, z.w.cell? ⟨w.heap.size, 9, none⟩ = some (.slice x3 n3 c3) := fun z => (cx z _ 9 zA).trans a9
  have q9 : ∀ z : Sub W, z.w.cell? ⟨w.heap.size + 1, 9, none⟩ = some (.slice y3 m3 e3) := fun z => (cx z _ 9 zB).trans b9
  have p10 : ∀ z : Sub W, z.w.cell? ⟨w.heap.size, 10, none⟩ = some (.slice x4 n4 c4) := fun z => (cx z _ 10 zA).trans a10
  have q10 : ∀ z : Sub W, z.w.cell? ⟨w.heap.size + 1, 10, none⟩ = some (.slice y4 m4 e4) := fun z => (cx z _ 10 zB).trans b10
  clear cx a0 b0 a1 b1 a2 b2 a3 b3 a4 b4 a5 b5 a6 b6 a7 b7 a8 b8 a9 b9 a10 b10
  repeat (first | go_big_quiet_skip | (go_big_quiet_want; go_big_quiet_op; first | go_big_quiet_on | (refine ⟨_, fun _ => rfl, ?_⟩; go_big_quiet_on)))
  refine wpQuiet_nil ?_
  rintro _ ⟨z, rfl⟩
  have B5 : Hid (Below w.heap.size w z.w) := BW.out.trans (z.h.mono BW.out.size)
  generalize z.w = w5 at *
  clear p0 q0 p1 q1 p2 q2 p3 q3 p4 q4 p5 q5 p6 q6 p7 q7 p8 q8 p9 q9 p10 q10 zA zB
  go_wp2
  go_ret
  exact ⟨rfl, B5.out⟩
end
end Go.Proofs.Yteffdmjleihhdaa
