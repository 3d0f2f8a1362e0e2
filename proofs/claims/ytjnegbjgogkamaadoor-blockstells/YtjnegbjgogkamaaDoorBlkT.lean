/- The table of the standard blocks, and the block of a number; no statement of the seat is proved here. -/
import Derived.Test.YtjnegbjgogkamaaDoorBase
import Derived.Below
import Derived.Deep.WholeRow
import Derived.Laws.CopyOwn
namespace Go.Proofs.YtjnegbjgogkamaaDoor
set_option linter.unusedVariables false
open Go.RowKit
/-- A block as a value: its name, its variables' names and kinds, how many are inputs and outputs, what a step does. -/
abbrev BV (nm names ks : ByteArray) (ins outs : Int) (fn : Value) : Value := .agg #[.string nm, .string names, .string ks, .int .i64 ins, .int .i64 outs, fn]
/-- A function of the program as a value. -/
abbrev FN (f : Nat) : Value := .func (.func f) #[] #[]
abbrev bk0 : Value := BV ⟨#[]⟩ ⟨#[]⟩ ⟨#[]⟩ 0 0 .nilFunc
abbrev bk1 : Value := BV ⟨#[83, 82]⟩ ⟨#[83, 49, 32, 82, 32, 81, 49]⟩ ⟨#[66, 66, 66]⟩ 2 1 (FN 40)
abbrev bk2 : Value := BV ⟨#[82, 83]⟩ ⟨#[83, 32, 82, 49, 32, 81, 49]⟩ ⟨#[66, 66, 66]⟩ 2 1 (FN 41)
abbrev bk3 : Value := BV ⟨#[82, 95, 84, 82, 73, 71]⟩ ⟨#[67, 76, 75, 32, 81, 32, 77]⟩ ⟨#[66, 66, 66]⟩ 1 1 (FN 42)
abbrev bk4 : Value := BV ⟨#[70, 95, 84, 82, 73, 71]⟩ ⟨#[67, 76, 75, 32, 81, 32, 77]⟩ ⟨#[66, 66, 66]⟩ 1 1 (FN 43)
abbrev bk5 : Value := BV ⟨#[67, 84, 85]⟩ ⟨#[67, 85, 32, 82, 32, 80, 86, 32, 81, 32, 67, 86, 32, 77]⟩ ⟨#[66, 66, 73, 66, 73, 66]⟩ 3 2 (FN 44)
abbrev bk6 : Value := BV ⟨#[67, 84, 68]⟩ ⟨#[67, 68, 32, 76, 68, 32, 80, 86, 32, 81, 32, 67, 86, 32, 77]⟩ ⟨#[66, 66, 73, 66, 73, 66]⟩ 3 2 (FN 45)
abbrev bk7 : Value := BV ⟨#[67, 84, 85, 68]⟩ ⟨#[67, 85, 32, 67, 68, 32, 82, 32, 76, 68, 32, 80, 86, 32, 81, 85, 32, 81, 68, 32, 67, 86, 32, 77, 32, 78]⟩ ⟨#[66, 66, 66, 66, 73, 66, 66, 73, 66, 66]⟩ 5 3 (FN 46)
abbrev bk8 : Value := BV ⟨#[84, 80]⟩ ⟨#[73, 78, 32, 80, 84, 32, 81, 32, 69, 84, 32, 77, 32, 83]⟩ ⟨#[66, 84, 66, 84, 66, 84]⟩ 2 2 (FN 47)
abbrev bk9 : Value := BV ⟨#[84, 79, 78]⟩ ⟨#[73, 78, 32, 80, 84, 32, 81, 32, 69, 84, 32, 77, 32, 83]⟩ ⟨#[66, 84, 66, 84, 66, 84]⟩ 2 2 (FN 48)
abbrev bk10 : Value := BV ⟨#[84, 79, 70]⟩ ⟨#[73, 78, 32, 80, 84, 32, 81, 32, 69, 84, 32, 77, 32, 83]⟩ ⟨#[66, 84, 66, 84, 66, 84]⟩ 2 2 (FN 49)
/-- The cells of the table. -/
def bkCells : Array Value := #[.string ⟨#[]⟩, .string ⟨#[]⟩, .string ⟨#[]⟩, .int .i64 0, .int .i64 0, .nilFunc, .string ⟨#[83, 82]⟩, .string ⟨#[83, 49, 32, 82, 32, 81, 49]⟩, .string ⟨#[66, 66, 66]⟩, .int .i64 2, .int .i64 1, FN 40, .string ⟨#[82, 83]⟩, .string ⟨#[83, 32, 82, 49, 32, 81, 49]⟩, .string ⟨#[66, 66, 66]⟩, .int .i64 2, .int .i64 1, FN 41, .string ⟨#[82, 95, 84, 82, 73, 71]⟩, .string ⟨#[67, 76, 75, 32, 81, 32, 77]⟩, .string ⟨#[66, 66, 66]⟩, .int .i64 1, .int .i64 1, FN 42, .string ⟨#[70, 95, 84, 82, 73, 71]⟩, .string ⟨#[67, 76, 75, 32, 81, 32, 77]⟩, .string ⟨#[66, 66, 66]⟩, .int .i64 1, .int .i64 1, FN 43, .string ⟨#[67, 84, 85]⟩, .string ⟨#[67, 85, 32, 82, 32, 80, 86, 32, 81, 32, 67, 86, 32, 77]⟩, .string ⟨#[66, 66, 73, 66, 73, 66]⟩, .int .i64 3, .int .i64 2, FN 44, .string ⟨#[67, 84, 68]⟩, .string ⟨#[67, 68, 32, 76, 68, 32, 80, 86, 32, 81, 32, 67, 86, 32, 77]⟩, .string ⟨#[66, 66, 73, 66, 73, 66]⟩, .int .i64 3, .int .i64 2, FN 45, .string ⟨#[67, 84, 85, 68]⟩, .string ⟨#[67, 85, 32, 67, 68, 32, 82, 32, 76, 68, 32, 80, 86, 32, 81, 85, 32, 81, 68, 32, 67, 86, 32, 77, 32, 78]⟩, .string ⟨#[66, 66, 66, 66, 73, 66, 66, 73, 66, 66]⟩, .int .i64 5, .int .i64 3, FN 46, .string ⟨#[84, 80]⟩, .string ⟨#[73, 78, 32, 80, 84, 32, 81, 32, 69, 84, 32, 77, 32, 83]⟩, .string ⟨#[66, 84, 66, 84, 66, 84]⟩, .int .i64 2, .int .i64 2, FN 47, .string ⟨#[84, 79, 78]⟩, .string ⟨#[73, 78, 32, 80, 84, 32, 81, 32, 69, 84, 32, 77, 32, 83]⟩, .string ⟨#[66, 84, 66, 84, 66, 84]⟩, .int .i64 2, .int .i64 2, FN 48, .string ⟨#[84, 79, 70]⟩, .string ⟨#[73, 78, 32, 80, 84, 32, 81, 32, 69, 84, 32, 77, 32, 83]⟩, .string ⟨#[66, 84, 66, 84, 66, 84]⟩, .int .i64 2, .int .i64 2, FN 49]
def zCells : Array Value := #[.string ⟨#[]⟩, .string ⟨#[]⟩, .string ⟨#[]⟩, .int .i64 0, .int .i64 0, .nilFunc, .string ⟨#[]⟩, .string ⟨#[]⟩, .string ⟨#[]⟩, .int .i64 0, .int .i64 0, .nilFunc, .string ⟨#[]⟩, .string ⟨#[]⟩, .string ⟨#[]⟩, .int .i64 0, .int .i64 0, .nilFunc, .string ⟨#[]⟩, .string ⟨#[]⟩, .string ⟨#[]⟩, .int .i64 0, .int .i64 0, .nilFunc, .string ⟨#[]⟩, .string ⟨#[]⟩, .string ⟨#[]⟩, .int .i64 0, .int .i64 0, .nilFunc, .string ⟨#[]⟩, .string ⟨#[]⟩, .string ⟨#[]⟩, .int .i64 0, .int .i64 0, .nilFunc, .string ⟨#[]⟩, .string ⟨#[]⟩, .string ⟨#[]⟩, .int .i64 0, .int .i64 0, .nilFunc, .string ⟨#[]⟩, .string ⟨#[]⟩, .string ⟨#[]⟩, .int .i64 0, .int .i64 0, .nilFunc, .string ⟨#[]⟩, .string ⟨#[]⟩, .string ⟨#[]⟩, .int .i64 0, .int .i64 0, .nilFunc, .string ⟨#[]⟩, .string ⟨#[]⟩, .string ⟨#[]⟩, .int .i64 0, .int .i64 0, .nilFunc, .string ⟨#[]⟩, .string ⟨#[]⟩, .string ⟨#[]⟩, .int .i64 0, .int .i64 0, .nilFunc]
theorem zero_tab (w : World) : (zeroValue 52).run Tryd.prog w = .ok (.agg zCells) w := by kernel_rfl
theorem tab_info : (Tryd.prog.info? 52).map (·.size) = some bkCells.size := by kernel_rfl
theorem tab_under : Tryd.prog.underlying 52 = some (.array 11 51) := by kernel_rfl
theorem wpList_build_is {P : Program} {ops : Array Oper} {rest : List Oper} {o : Oper} {a : Act} {w : World} {Q : Exit → Act → World → Prop} (hg : o.guard = none) (t : TypeId) (parts : Array (Nat × Operand)) (ho : o.op = .build t parts) (cells : Array Value)
    (hc : P.built t (parts.map fun (i, x) => (i, a.eval x)).toList = some cells) (h : wpList P ops Q rest (a.put o.dst (.agg cells)) w) : wpList P ops Q (o :: rest) a w :=
  wpList_build hg t parts ho (by rw [hc]; rfl) (by rw [hc]; exact h)
theorem tab_built : Tryd.prog.built 52 [(1, bk1), (2, bk2), (3, bk3), (4, bk4), (5, bk5), (6, bk6), (7, bk7), (8, bk8), (9, bk9), (10, bk10)] = some bkCells := by kernel_rfl
set_option maxHeartbeats 2000000 in
theorem all_of (w : World) : Calls Tryd.prog 24 #[] w fun e w' => e = .returned (.agg bkCells) ∧ Below w.heap.size w w' := by
  have z := zero_tab
  go_enter Tryd.func24, Tryd.ntmps24
  go_wp2_with (first | (refine wpList_build_is rfl 52 _ rfl bkCells (by kernel_rfl) ?_) | (refine wpList_store_row rfl 52 _ _ rfl w.heap.size bkCells (by kernel_rfl) (by kernel_rfl) _ zCells (heap_alloc_last w _) tab_info (by kernel_rfl) (by kernel_rfl) ?_))
  rw [World.setRow_alloc_new]
  exact bodyPost_ret (v := .agg bkCells) (results_cell_row Tryd.results24 _ _ w.heap.size _ bkCells (0, 0) _ (by kernel_rfl) (heap_alloc_last w _) tab_under rfl tab_info) rfl ⟨rfl, (Below.refl _ _).alloc (Nat.le_refl _) _⟩
theorem tab_at1 (w : World) : (Instr.index 52 (.agg bkCells) (.int .i64 1)).run Tryd.prog w = .ok bk1 w := by kernel_rfl
theorem tab_at2 (w : World) : (Instr.index 52 (.agg bkCells) (.int .i64 2)).run Tryd.prog w = .ok bk2 w := by kernel_rfl
theorem tab_at3 (w : World) : (Instr.index 52 (.agg bkCells) (.int .i64 3)).run Tryd.prog w = .ok bk3 w := by kernel_rfl
theorem tab_at4 (w : World) : (Instr.index 52 (.agg bkCells) (.int .i64 4)).run Tryd.prog w = .ok bk4 w := by kernel_rfl
theorem tab_at5 (w : World) : (Instr.index 52 (.agg bkCells) (.int .i64 5)).run Tryd.prog w = .ok bk5 w := by kernel_rfl
theorem tab_at6 (w : World) : (Instr.index 52 (.agg bkCells) (.int .i64 6)).run Tryd.prog w = .ok bk6 w := by kernel_rfl
theorem tab_at7 (w : World) : (Instr.index 52 (.agg bkCells) (.int .i64 7)).run Tryd.prog w = .ok bk7 w := by kernel_rfl
theorem tab_at8 (w : World) : (Instr.index 52 (.agg bkCells) (.int .i64 8)).run Tryd.prog w = .ok bk8 w := by kernel_rfl
theorem tab_at9 (w : World) : (Instr.index 52 (.agg bkCells) (.int .i64 9)).run Tryd.prog w = .ok bk9 w := by kernel_rfl
theorem tab_at10 (w : World) : (Instr.index 52 (.agg bkCells) (.int .i64 10)).run Tryd.prog w = .ok bk10 w := by kernel_rfl
/-- The box of a block that is answered, behind a call. -/
theorem step_blk {w w1 : World} {u : TypeId} (hb : Below (w.alloc (.cells #[.string ⟨#[]⟩, .string ⟨#[]⟩, .string ⟨#[]⟩, .int .i64 0, .int .i64 0, .nilFunc] u)).heap.size (w.alloc (.cells #[.string ⟨#[]⟩, .string ⟨#[]⟩, .string ⟨#[]⟩, .int .i64 0, .int .i64 0, .nilFunc] u)) w1) :
    w1.heap[w.heap.size]? = some (.cells #[.string ⟨#[]⟩, .string ⟨#[]⟩, .string ⟨#[]⟩, .int .i64 0, .int .i64 0, .nilFunc] u (0, 0)) ∧ Below w.heap.size w w1 := by
  refine ⟨?_, ((Below.refl _ _).alloc (Nat.le_refl _) _).trans (hb.mono (by simp))⟩
  rw [hb.block w.heap.size (by simp)]
  exact heap_alloc_last w _
theorem blk_info : (Tryd.prog.info? 51).map (·.size) = some 6 := by kernel_rfl
set_option maxHeartbeats 1000000 in
theorem numbered_1 (w : World) : Calls Tryd.prog 25 #[.int .i64 1] w fun e w' => e = .returned bk1 ∧ Below w.heap.size w w' := by
  have i := tab_at1
  go_enter Tryd.func25, Tryd.ntmps25
  go_wp2_with (first | (go_at_call 24; refine (all_of _).mono ?_; rintro e w1 ⟨rfl, hb⟩; obtain ⟨hc, HB⟩ := step_blk hb; clear hb) | (refine wpList_store_row rfl 51 _ _ rfl w.heap.size _ rfl rfl _ _ hc blk_info rfl (by kernel_rfl) ?_))
  exact bodyPost_ret (v := bk1) (results_cell_row Tryd.results25 _ _ w.heap.size _ _ (0, 0) _ (by simp [Act.put]) (setRow_heap _ _ _ _ _ _ hc) Tryd.underlying51 rfl blk_info) rfl ⟨rfl, below_setRow HB (Nat.le_refl _) _⟩
set_option maxHeartbeats 1000000 in
theorem numbered_2 (w : World) : Calls Tryd.prog 25 #[.int .i64 2] w fun e w' => e = .returned bk2 ∧ Below w.heap.size w w' := by
  have i := tab_at2
  go_enter Tryd.func25, Tryd.ntmps25
  go_wp2_with (first | (go_at_call 24; refine (all_of _).mono ?_; rintro e w1 ⟨rfl, hb⟩; obtain ⟨hc, HB⟩ := step_blk hb; clear hb) | (refine wpList_store_row rfl 51 _ _ rfl w.heap.size _ rfl rfl _ _ hc blk_info rfl (by kernel_rfl) ?_))
  exact bodyPost_ret (v := bk2) (results_cell_row Tryd.results25 _ _ w.heap.size _ _ (0, 0) _ (by simp [Act.put]) (setRow_heap _ _ _ _ _ _ hc) Tryd.underlying51 rfl blk_info) rfl ⟨rfl, below_setRow HB (Nat.le_refl _) _⟩
set_option maxHeartbeats 1000000 in
theorem numbered_3 (w : World) : Calls Tryd.prog 25 #[.int .i64 3] w fun e w' => e = .returned bk3 ∧ Below w.heap.size w w' := by
  have i := tab_at3
  go_enter Tryd.func25, Tryd.ntmps25
  go_wp2_with (first | (go_at_call 24; refine (all_of _).mono ?_; rintro e w1 ⟨rfl, hb⟩; obtain ⟨hc, HB⟩ := step_blk hb; clear hb) | (refine wpList_store_row rfl 51 _ _ rfl w.heap.size _ rfl rfl _ _ hc blk_info rfl (by kernel_rfl) ?_))
  exact bodyPost_ret (v := bk3) (results_cell_row Tryd.results25 _ _ w.heap.size _ _ (0, 0) _ (by simp [Act.put]) (setRow_heap _ _ _ _ _ _ hc) Tryd.underlying51 rfl blk_info) rfl ⟨rfl, below_setRow HB (Nat.le_refl _) _⟩
set_option maxHeartbeats 1000000 in
theorem numbered_4 (w : World) : Calls Tryd.prog 25 #[.int .i64 4] w fun e w' => e = .returned bk4 ∧ Below w.heap.size w w' := by
  have i := tab_at4
  go_enter Tryd.func25, Tryd.ntmps25
  go_wp2_with (first | (go_at_call 24; refine (all_of _).mono ?_; rintro e w1 ⟨rfl, hb⟩; obtain ⟨hc, HB⟩ := step_blk hb; clear hb) | (refine wpList_store_row rfl 51 _ _ rfl w.heap.size _ rfl rfl _ _ hc blk_info rfl (by kernel_rfl) ?_))
  exact bodyPost_ret (v := bk4) (results_cell_row Tryd.results25 _ _ w.heap.size _ _ (0, 0) _ (by simp [Act.put]) (setRow_heap _ _ _ _ _ _ hc) Tryd.underlying51 rfl blk_info) rfl ⟨rfl, below_setRow HB (Nat.le_refl _) _⟩
set_option maxHeartbeats 1000000 in
theorem numbered_5 (w : World) : Calls Tryd.prog 25 #[.int .i64 5] w fun e w' => e = .returned bk5 ∧ Below w.heap.size w w' := by
  have i := tab_at5
  go_enter Tryd.func25, Tryd.ntmps25
  go_wp2_with (first | (go_at_call 24; refine (all_of _).mono ?_; rintro e w1 ⟨rfl, hb⟩; obtain ⟨hc, HB⟩ := step_blk hb; clear hb) | (refine wpList_store_row rfl 51 _ _ rfl w.heap.size _ rfl rfl _ _ hc blk_info rfl (by kernel_rfl) ?_))
  exact bodyPost_ret (v := bk5) (results_cell_row Tryd.results25 _ _ w.heap.size _ _ (0, 0) _ (by simp [Act.put]) (setRow_heap _ _ _ _ _ _ hc) Tryd.underlying51 rfl blk_info) rfl ⟨rfl, below_setRow HB (Nat.le_refl _) _⟩
set_option maxHeartbeats 1000000 in
theorem numbered_6 (w : World) : Calls Tryd.prog 25 #[.int .i64 6] w fun e w' => e = .returned bk6 ∧ Below w.heap.size w w' := by
  have i := tab_at6
  go_enter Tryd.func25, Tryd.ntmps25
  go_wp2_with (first | (go_at_call 24; refine (all_of _).mono ?_; rintro e w1 ⟨rfl, hb⟩; obtain ⟨hc, HB⟩ := step_blk hb; clear hb) | (refine wpList_store_row rfl 51 _ _ rfl w.heap.size _ rfl rfl _ _ hc blk_info rfl (by kernel_rfl) ?_))
  exact bodyPost_ret (v := bk6) (results_cell_row Tryd.results25 _ _ w.heap.size _ _ (0, 0) _ (by simp [Act.put]) (setRow_heap _ _ _ _ _ _ hc) Tryd.underlying51 rfl blk_info) rfl ⟨rfl, below_setRow HB (Nat.le_refl _) _⟩
set_option maxHeartbeats 1000000 in
theorem numbered_7 (w : World) : Calls Tryd.prog 25 #[.int .i64 7] w fun e w' => e = .returned bk7 ∧ Below w.heap.size w w' := by
  have i := tab_at7
  go_enter Tryd.func25, Tryd.ntmps25
  go_wp2_with (first | (go_at_call 24; refine (all_of _).mono ?_; rintro e w1 ⟨rfl, hb⟩; obtain ⟨hc, HB⟩ := step_blk hb; clear hb) | (refine wpList_store_row rfl 51 _ _ rfl w.heap.size _ rfl rfl _ _ hc blk_info rfl (by kernel_rfl) ?_))
  exact bodyPost_ret (v := bk7) (results_cell_row Tryd.results25 _ _ w.heap.size _ _ (0, 0) _ (by simp [Act.put]) (setRow_heap _ _ _ _ _ _ hc) Tryd.underlying51 rfl blk_info) rfl ⟨rfl, below_setRow HB (Nat.le_refl _) _⟩
set_option maxHeartbeats 1000000 in
theorem numbered_8 (w : World) : Calls Tryd.prog 25 #[.int .i64 8] w fun e w' => e = .returned bk8 ∧ Below w.heap.size w w' := by
  have i := tab_at8
  go_enter Tryd.func25, Tryd.ntmps25
  go_wp2_with (first | (go_at_call 24; refine (all_of _).mono ?_; rintro e w1 ⟨rfl, hb⟩; obtain ⟨hc, HB⟩ := step_blk hb; clear hb) | (refine wpList_store_row rfl 51 _ _ rfl w.heap.size _ rfl rfl _ _ hc blk_info rfl (by kernel_rfl) ?_))
  exact bodyPost_ret (v := bk8) (results_cell_row Tryd.results25 _ _ w.heap.size _ _ (0, 0) _ (by simp [Act.put]) (setRow_heap _ _ _ _ _ _ hc) Tryd.underlying51 rfl blk_info) rfl ⟨rfl, below_setRow HB (Nat.le_refl _) _⟩
set_option maxHeartbeats 1000000 in
theorem numbered_9 (w : World) : Calls Tryd.prog 25 #[.int .i64 9] w fun e w' => e = .returned bk9 ∧ Below w.heap.size w w' := by
  have i := tab_at9
  go_enter Tryd.func25, Tryd.ntmps25
  go_wp2_with (first | (go_at_call 24; refine (all_of _).mono ?_; rintro e w1 ⟨rfl, hb⟩; obtain ⟨hc, HB⟩ := step_blk hb; clear hb) | (refine wpList_store_row rfl 51 _ _ rfl w.heap.size _ rfl rfl _ _ hc blk_info rfl (by kernel_rfl) ?_))
  exact bodyPost_ret (v := bk9) (results_cell_row Tryd.results25 _ _ w.heap.size _ _ (0, 0) _ (by simp [Act.put]) (setRow_heap _ _ _ _ _ _ hc) Tryd.underlying51 rfl blk_info) rfl ⟨rfl, below_setRow HB (Nat.le_refl _) _⟩
set_option maxHeartbeats 1000000 in
theorem numbered_10 (w : World) : Calls Tryd.prog 25 #[.int .i64 10] w fun e w' => e = .returned bk10 ∧ Below w.heap.size w w' := by
  have i := tab_at10
  go_enter Tryd.func25, Tryd.ntmps25
  go_wp2_with (first | (go_at_call 24; refine (all_of _).mono ?_; rintro e w1 ⟨rfl, hb⟩; obtain ⟨hc, HB⟩ := step_blk hb; clear hb) | (refine wpList_store_row rfl 51 _ _ rfl w.heap.size _ rfl rfl _ _ hc blk_info rfl (by kernel_rfl) ?_))
  exact bodyPost_ret (v := bk10) (results_cell_row Tryd.results25 _ _ w.heap.size _ _ (0, 0) _ (by simp [Act.put]) (setRow_heap _ _ _ _ _ _ hc) Tryd.underlying51 rfl blk_info) rfl ⟨rfl, below_setRow HB (Nat.le_refl _) _⟩
end Go.Proofs.YtjnegbjgogkamaaDoor
