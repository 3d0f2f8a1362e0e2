/- What a resource that no call made answers to an entry; no statement of the seat is proved here. -/
import Derived.Test.YtoiipiapgidbiaaGreatDoorSnA
import Derived.Test.YtoiipiapgidbiaaGreatDoorWnB
namespace Go.Proofs.YtoiipiapgidbiaaGreatDoor
set_option linter.unusedVariables false
set_option linter.unusedSimpArgs false
open Go.RowKit
theorem step_rep3 {w w1 : World} {a b : Obj} {u : TypeId} (hb : Below (((w.alloc a).alloc b).alloc (.cells zr u)).heap.size (((w.alloc a).alloc b).alloc (.cells zr u)) w1) : w1.heap[w.heap.size + 2]? = some (.cells zr u (0, 0)) ∧ Below w.heap.size w w1 := by
  refine ⟨?_, ((((Below.refl _ _).alloc (Nat.le_refl _) _).alloc (by simp) _).alloc (by simp; omega) _).trans (hb.mono (by simp; omega))⟩
  have h := heap_alloc_last ((w.alloc a).alloc b) (.cells zr u)
  have e : ((w.alloc a).alloc b).heap.size = w.heap.size + 2 := by simp
  rw [e] at h
  rw [hb.block (w.heap.size + 2) (by simp)]
  exact h
set_option maxHeartbeats 1000000 in
theorem REntry_no (r : Value) (n : Int) (x : Option Addr) (k c : Nat) (w : World) (hr : RnN w r) : Calls Tryz.prog 4 #[r, .int .i64 n, .slice x k c] w fun e w' => e = .returned (.tuple #[ZR, .int .i64 8]) ∧ Below w.heap.size w w' := by
  go_enter Tryz.func4, Tryz.ntmps4
  go_wp2_with fail
  refine (asked0_no r _ (hr.below ((((Below.refl _ _).alloc (Nat.le_refl _) _).alloc (by simp) _).alloc (by simp; omega) _)) _ _).mono ?_
  rintro e w1 ⟨rfl, hb⟩
  obtain ⟨hc, HB⟩ := step_rep3 hb
  clear hb
  go_wp2_with (first | (refine wpList_load_row rfl 42 _ rfl (w.heap.size + 2) rfl _ zr (0, 0) _ hc Tryz.underlying42 rfl rep_info ?_) | (refine wpList_store_row rfl 42 _ _ rfl (w.heap.size + 2) _ rfl rfl _ _ hc rep_info rfl (by kernel_rfl) ?_))
  exact bodyPost_ret (v := .tuple #[.agg zr, .int .i64 8]) (results_cell_row_1 Tryz.results4 _ _ (w.heap.size + 2) _ _ (0, 0) _ (by first | rfl | simp [Act.put]) (setRow_heap _ _ _ _ _ _ hc) Tryz.underlying42 rfl rep_info) rfl ⟨rfl, below_setRow HB (by omega) _⟩
end Go.Proofs.YtoiipiapgidbiaaGreatDoor
