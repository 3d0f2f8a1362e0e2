/- An image without anything is checked; no statement of the seat is proved here. -/
import Derived.Test.YtoiipiapgidbiaaGreatDoorSnC
import Derived.Test.YtoiipiapgidbiaaGreatDoorLexD
import Derived.Deep.Cut
namespace Go.Proofs.YtoiipiapgidbiaaGreatDoor
set_option linter.unusedVariables false
set_option linter.unusedSimpArgs false
open Go.RowKit
abbrev mE : Array Value := #[.string ⟨#[77]⟩, .slice none 0 0, .slice none 0 0, .slice none 0 0]
abbrev fl0 : Array Value := #[.int .i64 0, .int .i64 0, .int .i64 0]
theorem ime_info : (Tryz.prog.info? 73).map (·.size) = some 4 := by kernel_rfl
theorem flaw_info : (Tryz.prog.info? 118).map (·.size) = some 3 := by kernel_rfl
theorem elB (w : World) (o : Obj) : Below w.heap.size w (w.alloc o) := (Below.refl _ _).alloc (Nat.le_refl _) _
set_option maxHeartbeats 1000000 in
theorem empty_of (w : World) : Calls Tryz.prog 34 #[] w fun e w' => e = .returned (.agg mE) ∧ Below w.heap.size w w' := by
  go_enter Tryz.func34, Tryz.ntmps34
  go_wp2_with (refine wpList_store_row rfl 73 _ _ rfl w.heap.size _ rfl rfl _ _ (heap_alloc_last w _) ime_info rfl (by kernel_rfl) ?_)
  exact bodyPost_ret (v := .agg mE) (results_cell_row Tryz.results34 _ _ w.heap.size _ _ (0, 0) _ (by first | rfl | simp [Act.put]) (setRow_heap _ _ _ _ _ _ (heap_alloc_last w _)) Tryz.underlying73 rfl ime_info) rfl ⟨rfl, below_setRow (elB w _) (Nat.le_refl _) _⟩
theorem name_M : nameB ⟨#[77]⟩ = true := by decide
set_option maxHeartbeats 1000000 in
theorem head_E (w : World) : Calls Tryz.prog 62 #[.agg mE] w fun e w' => e = .returned (.agg fl0) ∧ Below w.heap.size w w' := by
  obtain ⟨W, eW⟩ : ∃ W, W = (w.alloc (.cells mE 73)).alloc (.cells fl0 118) := ⟨_, rfl⟩
  have m0 : W.cell? ⟨w.heap.size, 0, none⟩ = some (.string ⟨#[77]⟩) := by rw [eW]; simp
  have m1 : W.cell? ⟨w.heap.size, 1, none⟩ = some (.slice none 0 0) := by rw [eW]; simp
  have m2 : W.cell? ⟨w.heap.size, 2, none⟩ = some (.slice none 0 0) := by rw [eW]; simp
  have m3 : W.cell? ⟨w.heap.size, 3, none⟩ = some (.slice none 0 0) := by rw [eW]; simp
  have X : W.heap[w.heap.size + 1]? = some (.cells fl0 118 (0, 0)) := by
    rw [eW]
    have h := heap_alloc_last (w.alloc (.cells mE 73)) (.cells fl0 118)
    rw [show (w.alloc (.cells mE 73)).heap.size = w.heap.size + 1 by simp] at h
    exact h
  have B : Below w.heap.size w W := by rw [eW]; exact (elB w _).alloc (by simp) _
  go_enter Tryz.func62, Tryz.ntmps62
  go_upto_region 1 with fail
  rw [← eW]
  clear eW
  go_wp2_with fail
  refine (IsName_of _ _ (by decide)).mono ?_
  rintro e w1 ⟨rfl, hw⟩
  rw [hw, name_M]
  clear hw
  go_wp2_with (refine wpList_store_row rfl 118 _ _ rfl (w.heap.size + 1) _ rfl rfl _ _ X flaw_info rfl (by kernel_rfl) ?_)
  exact bodyPost_ret (v := .agg fl0) (results_cell_row Tryz.results62 _ _ (w.heap.size + 1) _ _ (0, 0) _ (by first | rfl | simp [Act.put]) (setRow_heap _ _ _ _ _ _ X) Tryz.underlying118 rfl flaw_info) rfl ⟨rfl, below_setRow B (by omega) _⟩
/- marks -/
theorem blk_in2 {W : World} {g : Nat} {o : Obj} (h : W.heap[g]? = some o) : g < W.heap.size := by
  rcases Nat.lt_or_ge g W.heap.size with q | q
  · exact q
  · rw [Array.getElem?_eq_none q] at h; cases h
theorem mk_mapE (w : World) : (Instr.makeMap 152 none).run Tryz.prog w = .ok (.map (some w.heap.size)) (w.alloc (.map #[] 0)) := rfl
set_option maxHeartbeats 1000000 in
theorem code_E (w : World) : Calls Tryz.prog 64 #[.agg mE] w fun e w' => e = .returned (.agg fl0) ∧ Below w.heap.size w w' := by
  obtain ⟨W, eW⟩ : ∃ W, W = (w.alloc (.cells mE 73)).alloc (.cells fl0 118) := ⟨_, rfl⟩
  have m1 : W.cell? ⟨w.heap.size, 1, none⟩ = some (.slice none 0 0) := by rw [eW]; simp
  have m2 : W.cell? ⟨w.heap.size, 2, none⟩ = some (.slice none 0 0) := by rw [eW]; simp
  have m3 : W.cell? ⟨w.heap.size, 3, none⟩ = some (.slice none 0 0) := by rw [eW]; simp
  have X : W.heap[w.heap.size + 1]? = some (.cells fl0 118 (0, 0)) := by
    rw [eW]
    have h := heap_alloc_last (w.alloc (.cells mE 73)) (.cells fl0 118)
    rw [show (w.alloc (.cells mE 73)).heap.size = w.heap.size + 1 by simp] at h
    exact h
  have B : Below w.heap.size w W := by rw [eW]; exact (elB w _).alloc (by simp) _
  go_enter Tryz.func64, Tryz.ntmps64
  go_upto_region 1 with fail
  rw [← eW]
  clear eW
  go_upto_region 2 with fail
  have lt := blk_in2 X
  go_upto_region 3 with fail
  go_loopw [11] (fun i wr => i = .int .i64 0 ∧ wr = W) (fun _ _ => 0)
  case atStart => exact ⟨rfl, rfl⟩
  case round =>
    obtain ⟨rfl, rfl⟩ := hrel
    go_wp2_with (refine wpList_store_row rfl 118 _ _ rfl (w.heap.size + 1) _ rfl rfl _ _ X flaw_info rfl (by kernel_rfl) ?_)
    exact bodyPost_ret (v := .agg fl0) (results_cell_row Tryz.results64 _ _ (w.heap.size + 1) _ _ (0, 0) _ (by first | rfl | simp [Act.put]) (setRow_heap _ _ _ _ _ _ X) Tryz.underlying118 rfl flaw_info) rfl ⟨rfl, below_setRow B (by omega) _⟩
set_option maxHeartbeats 1000000 in
theorem cell_E (w : World) : Calls Tryz.prog 63 #[.agg mE] w fun e w' => e = .returned (.agg fl0) ∧ Below w.heap.size w w' := by
  obtain ⟨W, eW⟩ : ∃ W, W = (w.alloc (.cells mE 73)).alloc (.cells fl0 118) := ⟨_, rfl⟩
  have m1 : W.cell? ⟨w.heap.size, 1, none⟩ = some (.slice none 0 0) := by rw [eW]; simp
  have m2 : W.cell? ⟨w.heap.size, 2, none⟩ = some (.slice none 0 0) := by rw [eW]; simp
  have m3 : W.cell? ⟨w.heap.size, 3, none⟩ = some (.slice none 0 0) := by rw [eW]; simp
  have X : W.heap[w.heap.size + 1]? = some (.cells fl0 118 (0, 0)) := by
    rw [eW]
    have h := heap_alloc_last (w.alloc (.cells mE 73)) (.cells fl0 118)
    rw [show (w.alloc (.cells mE 73)).heap.size = w.heap.size + 1 by simp] at h
    exact h
  have B : Below w.heap.size w W := by rw [eW]; exact (elB w _).alloc (by simp) _
  go_enter Tryz.func63, Tryz.ntmps63
  go_upto_region 1 with fail
  rw [← eW]
  clear eW
  have mm := mk_mapE
  go_upto_region 2 with fail
  obtain ⟨W', eM⟩ : ∃ W', W' = W.alloc (.map #[] 0) := ⟨_, rfl⟩
  rw [← eM]
  have A1 : Below W.heap.size W W' := by rw [eM]; exact elB _ _
  have lt0 := blk_in2 X
  replace m1 := (A1.cell (p := ⟨w.heap.size, 1, none⟩) (block_lt_of_cell m1)).trans m1
  replace m3 := (A1.cell (p := ⟨w.heap.size, 3, none⟩) (block_lt_of_cell m3)).trans m3
  replace X := (A1.block _ lt0).trans X
  replace B := B.trans (A1.mono B.size)
  clear A1 eM m2 lt0
  have lt := blk_in2 X
  go_upto_region 3 with fail
  go_loopw [12] (fun i wr => i = .int .i64 0 ∧ wr = W') (fun _ _ => 0)
  case atStart => exact ⟨rfl, rfl⟩
  case round =>
    obtain ⟨rfl, rfl⟩ := hrel
    go_wp2_with (refine wpList_store_row rfl 118 _ _ rfl (w.heap.size + 1) _ rfl rfl _ _ X flaw_info rfl (by kernel_rfl) ?_)
    exact bodyPost_ret (v := .agg fl0) (results_cell_row Tryz.results63 _ _ (w.heap.size + 1) _ _ (0, 0) _ (by first | rfl | simp [Act.put]) (setRow_heap _ _ _ _ _ _ X) Tryz.underlying118 rfl flaw_info) rfl ⟨rfl, below_setRow B (by omega) _⟩
set_option maxHeartbeats 1000000 in
theorem job_E (w : World) : Calls Tryz.prog 65 #[.agg mE] w fun e w' => e = .returned (.agg fl0) ∧ Below w.heap.size w w' := by
  obtain ⟨W, eW⟩ : ∃ W, W = (w.alloc (.cells mE 73)).alloc (.cells fl0 118) := ⟨_, rfl⟩
  have m1 : W.cell? ⟨w.heap.size, 1, none⟩ = some (.slice none 0 0) := by rw [eW]; simp
  have m2 : W.cell? ⟨w.heap.size, 2, none⟩ = some (.slice none 0 0) := by rw [eW]; simp
  have m3 : W.cell? ⟨w.heap.size, 3, none⟩ = some (.slice none 0 0) := by rw [eW]; simp
  have X : W.heap[w.heap.size + 1]? = some (.cells fl0 118 (0, 0)) := by
    rw [eW]
    have h := heap_alloc_last (w.alloc (.cells mE 73)) (.cells fl0 118)
    rw [show (w.alloc (.cells mE 73)).heap.size = w.heap.size + 1 by simp] at h
    exact h
  have B : Below w.heap.size w W := by rw [eW]; exact (elB w _).alloc (by simp) _
  go_enter Tryz.func65, Tryz.ntmps65
  go_upto_region 1 with fail
  rw [← eW]
  clear eW
  have mm := mk_mapE
  go_upto_region 2 with fail
  obtain ⟨W', eM⟩ : ∃ W', W' = W.alloc (.map #[] 0) := ⟨_, rfl⟩
  rw [← eM]
  have A1 : Below W.heap.size W W' := by rw [eM]; exact elB _ _
  have lt0 := blk_in2 X
  replace m1 := (A1.cell (p := ⟨w.heap.size, 1, none⟩) (block_lt_of_cell m1)).trans m1
  replace m3 := (A1.cell (p := ⟨w.heap.size, 3, none⟩) (block_lt_of_cell m3)).trans m3
  replace X := (A1.block _ lt0).trans X
  replace B := B.trans (A1.mono B.size)
  clear A1 eM m2 lt0
  have lt := blk_in2 X
  go_upto_region 3 with fail
  go_loopw [12] (fun i wr => i = .int .i64 0 ∧ wr = W') (fun _ _ => 0)
  case atStart => exact ⟨rfl, rfl⟩
  case round =>
    obtain ⟨rfl, rfl⟩ := hrel
    go_wp2_with (refine wpList_store_row rfl 118 _ _ rfl (w.heap.size + 1) _ rfl rfl _ _ X flaw_info rfl (by kernel_rfl) ?_)
    exact bodyPost_ret (v := .agg fl0) (results_cell_row Tryz.results65 _ _ (w.heap.size + 1) _ _ (0, 0) _ (by first | rfl | simp [Act.put]) (setRow_heap _ _ _ _ _ _ X) Tryz.underlying118 rfl flaw_info) rfl ⟨rfl, below_setRow B (by omega) _⟩
end Go.Proofs.YtoiipiapgidbiaaGreatDoor
