/- What numbered answers for a number of the table, and how many arguments a function takes; no statement of the seat is proved here. -/
import Derived.Test.YtkanhbokdjppoaaGreatDoorStdU
import Derived.Test.YtkanhbokdjppoaaGreatDoorFldP
import Derived.Test.YtkanhbokdjppoaaGreatDoorNums
import Derived.Handy
namespace Go.Proofs.YtkanhbokdjppoaaGreatDoor
set_option linter.unusedVariables false
open Go.RowKit
/-- The box of a function that is answered, behind a call. -/
theorem step_fu {w w1 : World} {u : TypeId} (hb : Below (w.alloc (.cells #[.string ⟨#[]⟩, .string ⟨#[]⟩, .int .i64 0, .int .i64 0, .nilFunc, .nilFunc] u)).heap.size (w.alloc (.cells #[.string ⟨#[]⟩, .string ⟨#[]⟩, .int .i64 0, .int .i64 0, .nilFunc, .nilFunc] u)) w1) :
    w1.heap[w.heap.size]? = some (.cells #[.string ⟨#[]⟩, .string ⟨#[]⟩, .int .i64 0, .int .i64 0, .nilFunc, .nilFunc] u (0, 0)) ∧ Below w.heap.size w w1 := by
  refine ⟨?_, ((Below.refl _ _).alloc (Nat.le_refl _) _).trans (hb.mono (by simp))⟩
  rw [hb.block w.heap.size (by simp)]
  exact heap_alloc_last w _
theorem fun_info : (Tryz.prog.info? 54).map (·.size) = some 6 := by kernel_rfl
/-- The function of a number in the table. -/
theorem fu_cells (k : Nat) (h : k < 37) : fuCells[k * 6]? = some (.string (fuT k).nm) ∧ fuCells[k * 6 + 1]? = some (.string (fuT k).fm) ∧ fuCells[k * 6 + 2]? = some (.int .i64 (fuT k).nx) ∧ fuCells[k * 6 + 3]? = some (.int .i64 (fuT k).hw) ∧ fuCells[k * 6 + 4]? = some (FO (fuT k).tk) ∧ fuCells[k * 6 + 5]? = some (FO (fuT k).gv) := by
  match k, h with
  | 0, _ => exact ⟨by kernel_rfl, by kernel_rfl, by kernel_rfl, by kernel_rfl, by kernel_rfl, by kernel_rfl⟩
  | 1, _ => exact ⟨by kernel_rfl, by kernel_rfl, by kernel_rfl, by kernel_rfl, by kernel_rfl, by kernel_rfl⟩
  | 2, _ => exact ⟨by kernel_rfl, by kernel_rfl, by kernel_rfl, by kernel_rfl, by kernel_rfl, by kernel_rfl⟩
  | 3, _ => exact ⟨by kernel_rfl, by kernel_rfl, by kernel_rfl, by kernel_rfl, by kernel_rfl, by kernel_rfl⟩
  | 4, _ => exact ⟨by kernel_rfl, by kernel_rfl, by kernel_rfl, by kernel_rfl, by kernel_rfl, by kernel_rfl⟩
  | 5, _ => exact ⟨by kernel_rfl, by kernel_rfl, by kernel_rfl, by kernel_rfl, by kernel_rfl, by kernel_rfl⟩
  | 6, _ => exact ⟨by kernel_rfl, by kernel_rfl, by kernel_rfl, by kernel_rfl, by kernel_rfl, by kernel_rfl⟩
  | 7, _ => exact ⟨by kernel_rfl, by kernel_rfl, by kernel_rfl, by kernel_rfl, by kernel_rfl, by kernel_rfl⟩
  | 8, _ => exact ⟨by kernel_rfl, by kernel_rfl, by kernel_rfl, by kernel_rfl, by kernel_rfl, by kernel_rfl⟩
  | 9, _ => exact ⟨by kernel_rfl, by kernel_rfl, by kernel_rfl, by kernel_rfl, by kernel_rfl, by kernel_rfl⟩
  | 10, _ => exact ⟨by kernel_rfl, by kernel_rfl, by kernel_rfl, by kernel_rfl, by kernel_rfl, by kernel_rfl⟩
  | 11, _ => exact ⟨by kernel_rfl, by kernel_rfl, by kernel_rfl, by kernel_rfl, by kernel_rfl, by kernel_rfl⟩
  | 12, _ => exact ⟨by kernel_rfl, by kernel_rfl, by kernel_rfl, by kernel_rfl, by kernel_rfl, by kernel_rfl⟩
  | 13, _ => exact ⟨by kernel_rfl, by kernel_rfl, by kernel_rfl, by kernel_rfl, by kernel_rfl, by kernel_rfl⟩
  | 14, _ => exact ⟨by kernel_rfl, by kernel_rfl, by kernel_rfl, by kernel_rfl, by kernel_rfl, by kernel_rfl⟩
  | 15, _ => exact ⟨by kernel_rfl, by kernel_rfl, by kernel_rfl, by kernel_rfl, by kernel_rfl, by kernel_rfl⟩
  | 16, _ => exact ⟨by kernel_rfl, by kernel_rfl, by kernel_rfl, by kernel_rfl, by kernel_rfl, by kernel_rfl⟩
  | 17, _ => exact ⟨by kernel_rfl, by kernel_rfl, by kernel_rfl, by kernel_rfl, by kernel_rfl, by kernel_rfl⟩
  | 18, _ => exact ⟨by kernel_rfl, by kernel_rfl, by kernel_rfl, by kernel_rfl, by kernel_rfl, by kernel_rfl⟩
  | 19, _ => exact ⟨by kernel_rfl, by kernel_rfl, by kernel_rfl, by kernel_rfl, by kernel_rfl, by kernel_rfl⟩
  | 20, _ => exact ⟨by kernel_rfl, by kernel_rfl, by kernel_rfl, by kernel_rfl, by kernel_rfl, by kernel_rfl⟩
  | 21, _ => exact ⟨by kernel_rfl, by kernel_rfl, by kernel_rfl, by kernel_rfl, by kernel_rfl, by kernel_rfl⟩
  | 22, _ => exact ⟨by kernel_rfl, by kernel_rfl, by kernel_rfl, by kernel_rfl, by kernel_rfl, by kernel_rfl⟩
  | 23, _ => exact ⟨by kernel_rfl, by kernel_rfl, by kernel_rfl, by kernel_rfl, by kernel_rfl, by kernel_rfl⟩
  | 24, _ => exact ⟨by kernel_rfl, by kernel_rfl, by kernel_rfl, by kernel_rfl, by kernel_rfl, by kernel_rfl⟩
  | 25, _ => exact ⟨by kernel_rfl, by kernel_rfl, by kernel_rfl, by kernel_rfl, by kernel_rfl, by kernel_rfl⟩
  | 26, _ => exact ⟨by kernel_rfl, by kernel_rfl, by kernel_rfl, by kernel_rfl, by kernel_rfl, by kernel_rfl⟩
  | 27, _ => exact ⟨by kernel_rfl, by kernel_rfl, by kernel_rfl, by kernel_rfl, by kernel_rfl, by kernel_rfl⟩
  | 28, _ => exact ⟨by kernel_rfl, by kernel_rfl, by kernel_rfl, by kernel_rfl, by kernel_rfl, by kernel_rfl⟩
  | 29, _ => exact ⟨by kernel_rfl, by kernel_rfl, by kernel_rfl, by kernel_rfl, by kernel_rfl, by kernel_rfl⟩
  | 30, _ => exact ⟨by kernel_rfl, by kernel_rfl, by kernel_rfl, by kernel_rfl, by kernel_rfl, by kernel_rfl⟩
  | 31, _ => exact ⟨by kernel_rfl, by kernel_rfl, by kernel_rfl, by kernel_rfl, by kernel_rfl, by kernel_rfl⟩
  | 32, _ => exact ⟨by kernel_rfl, by kernel_rfl, by kernel_rfl, by kernel_rfl, by kernel_rfl, by kernel_rfl⟩
  | 33, _ => exact ⟨by kernel_rfl, by kernel_rfl, by kernel_rfl, by kernel_rfl, by kernel_rfl, by kernel_rfl⟩
  | 34, _ => exact ⟨by kernel_rfl, by kernel_rfl, by kernel_rfl, by kernel_rfl, by kernel_rfl, by kernel_rfl⟩
  | 35, _ => exact ⟨by kernel_rfl, by kernel_rfl, by kernel_rfl, by kernel_rfl, by kernel_rfl, by kernel_rfl⟩
  | 36, _ => exact ⟨by kernel_rfl, by kernel_rfl, by kernel_rfl, by kernel_rfl, by kernel_rfl, by kernel_rfl⟩
  | n + 37, h => omega
/-- A function's cells in memory. -/
structure FuAt (w : World) (g o : Nat) (f : Fu) : Prop where
  c0 : w.cell? ⟨g, o, none⟩ = some (.string f.nm)
  c1 : w.cell? ⟨g, o + 1, none⟩ = some (.string f.fm)
  c2 : w.cell? ⟨g, o + 2, none⟩ = some (.int .i64 f.nx)
  c3 : w.cell? ⟨g, o + 3, none⟩ = some (.int .i64 f.hw)
  c4 : w.cell? ⟨g, o + 4, none⟩ = some (FO f.tk)
  c5 : w.cell? ⟨g, o + 5, none⟩ = some (FO f.gv)
theorem FuAt.below {w wr : World} {g o : Nat} {f : Fu} (h : FuAt w g o f) (hb : Below w.heap.size w wr) : FuAt wr g o f := by
  have z := block_lt_of_cell h.c0
  exact ⟨(hb.cell (p := ⟨g, o, none⟩) z).trans h.c0, (hb.cell (p := ⟨g, o + 1, none⟩) z).trans h.c1, (hb.cell (p := ⟨g, o + 2, none⟩) z).trans h.c2, (hb.cell (p := ⟨g, o + 3, none⟩) z).trans h.c3, (hb.cell (p := ⟨g, o + 4, none⟩) z).trans h.c4, (hb.cell (p := ⟨g, o + 5, none⟩) z).trans h.c5⟩
/-- The table in a box of its own. -/
def TbAt (w : World) (g : Nat) : Prop := w.heap[g]? = some (.cells fuCells 67 (0, 0))
theorem TbAt.fu {w : World} {g : Nat} (h : TbAt w g) (k : Nat) (hk : k < 37) : FuAt w g (k * 6) (fuT k) := by
  obtain ⟨a, b, c, d, e, f⟩ := fu_cells k hk
  unfold TbAt at h
  exact ⟨by simp only [World.cell?, h]; simpa using a, by simp only [World.cell?, h]; simpa using b, by simp only [World.cell?, h]; simpa using c, by simp only [World.cell?, h]; simpa using d, by simp only [World.cell?, h]; simpa using e, by simp only [World.cell?, h]; simpa using f⟩
set_option maxRecDepth 20000 in
set_option maxHeartbeats 1000000 in
theorem numbered_K (k : Nat) (h1 : 1 ≤ k) (h2 : k < 37) (w : World) : Calls Tryz.prog 23 #[.int .i64 k] w fun e w' => e = .returned (FV (fuT k)) ∧ Below w.heap.size w w' := by
  have TF : Hid (∀ w g, TbAt w g → FuAt w g (k * 6) (fuT k)) := fun w g h => h.fu k h2
  generalize fuT k = f at *
  obtain ⟨nm, fm, nx, hw, tk, gv⟩ := f
  have g1 : (0 : Int) < k := by omega
  have g2 : (k : Int) < 37 := by omega
  clear h1
  cases tk <;> cases gv
  all_goals
    go_enter Tryz.func23, Tryz.ntmps23
    go_wp2_with (first | (go_at_call 37; refine (functions_of _).mono ?_; rintro e w1 ⟨rfl, hb⟩; obtain ⟨hc, HB⟩ := step_fu hb; clear hb) | (refine wpList_store_row rfl 67 _ _ rfl w1.heap.size fuCells (by kernel_rfl) (by kernel_rfl) _ _ (heap_alloc_last w1 _) fu_info (by kernel_rfl) (by kernel_rfl) ?_; rw [World.setRow_alloc_new]; have tb : TbAt (w1.alloc (.cells fuCells 67)) w1.heap.size := heap_alloc_last w1 _; have bb : Below w1.heap.size w1 (w1.alloc (.cells fuCells 67)) := (Below.refl _ _).alloc (Nat.le_refl _) _; have HB2 : Hid (Below w.heap.size w (w1.alloc (.cells fuCells 67))) := HB.trans (bb.mono HB.size); have hd : (w1.alloc (.cells fuCells 67)).heap[w.heap.size]? = _ := (bb.block _ (lt_of_block hc)).trans hc; obtain ⟨c0, c1, c2, c3, c4, c5⟩ := TF.out _ _ tb; clear tb bb; generalize (w1.alloc (.cells fuCells 67)) = w2 at *) | (refine wpList_store_row rfl 54 _ _ rfl w.heap.size _ rfl rfl _ _ hd fun_info rfl (by kernel_rfl) ?_))
    exact bodyPost_ret (v := FV ⟨nm, fm, nx, hw, _, _⟩) (results_cell_row Tryz.results23 _ _ w.heap.size _ _ (0, 0) _ (by simp) (setRow_heap _ _ _ _ _ _ hd) Tryz.underlying54 rfl fun_info) rfl ⟨rfl, below_setRow HB2.out (Nat.le_refl _) _⟩
end Go.Proofs.YtkanhbokdjppoaaGreatDoor
