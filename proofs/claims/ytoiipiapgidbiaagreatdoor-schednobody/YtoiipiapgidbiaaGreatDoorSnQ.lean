/- awake is true; no statement of the seat is proved here. -/
import Derived.Test.YtoiipiapgidbiaaGreatDoorSnP
namespace Go.Proofs.YtoiipiapgidbiaaGreatDoor
set_option linter.unusedVariables false
set_option linter.unusedSimpArgs false
open Go.RowKit
set_option maxRecDepth 20000 in
set_option maxHeartbeats 4000000 in
theorem awakeS_of (w : World) : Calls Tryz.prog 15 #[] w fun e w' => e = .returned (.bool true) ∧ Below w.heap.size w w' := by
  go_enter Tryz.func15, Tryz.ntmps15
  go_wp2_with fail
  refine (empty_of _).mono ?_
  rintro e w1 ⟨rfl, hb1⟩
  have B1 : Hid (Below w.heap.size w w1) := by first | exact hb1 | exact (Below.refl _ _).drew.trans hb1
  clear hb1
  go_wp2_with fail
  refine (newS_E _).mono ?_
  rintro e w2 ⟨⟨g, h, rfl, hr, ht, hg, hgh⟩, hb2⟩
  have R2 : Hid (RsAt w2 h g 0) := hr
  have T2 : Hid (TkAt w2 g (.slice none 0 0) (.int .i64 0) (.int .i64 1) (.bool false)) := ht
  have L : Hid (w.heap.size ≤ g ∧ g < h) := ⟨Nat.le_trans B1.out.size hg, hgh⟩
  have B2 : Hid (Below w.heap.size w w2) := B1.out.trans (hb2.mono B1.out.size)
  clear hr ht hg hgh hb2 B1
  go_wp2_with fail
  refine (startS_E h g _ _ _ _ (by have := L.out; omega) R2.out T2.out).mono ?_
  rintro e w3 ⟨rfl, hr, ht, hb⟩
  have R3 : Hid (RsAt w3 h g 0) := hr
  have T3 : Hid (TkAt w3 g (.slice none 0 0) (.int .i64 0) (.int .i64 2) (.bool true)) := ht
  have B3 : Hid (Below w.heap.size w w3) := B2.out.trans (hb _ (by have := L.out; omega) (by have := L.out; omega))
  clear hr ht hb B2 R2 T2
  go_wp2_with fail
  refine (entryS_E h g _ _ (by have := L.out; omega) R3.out T3.out).mono ?_
  rintro e w4 ⟨rfl, hr, ht, hb⟩
  have R4 : Hid (RsAt w4 h g 0) := hr
  have T4 : Hid (TkAt w4 g (.slice none 0 0) (.int .i64 7) (.int .i64 2) (.bool false)) := ht
  have B4 : Hid (Below w.heap.size w w4) := B3.out.trans (hb _ (by have := L.out; omega) (by have := L.out; omega))
  have L4 : Hid (g < w4.heap.size ∧ h < w4.heap.size) := ⟨by obtain ⟨_, _, _, q⟩ := ht; exact blk_in2 q, blk_in2 hr⟩
  clear hr ht hb B3 R3 T3
  have hX := heap_alloc_last w4 (.cells zr 42 (0, 0))
  go_upto_region 5 with (refine wpList_store_row rfl 42 _ _ rfl (w4.heap.size) _ rfl rfl _ _ hX rep_info rfl (by kernel_rfl) ?_)
  obtain ⟨W, eW⟩ : ∃ W, W = (w4.alloc (.cells zr 42 (0, 0))).setRow w4.heap.size rz7 := ⟨_, rfl⟩
  have A4 : Below w4.heap.size w4 W := by rw [eW]; exact below_setRow (elB _ _) (Nat.le_refl _) _
  have X5 : Hid (W.heap[w4.heap.size]? = some (.cells rz7 42 (0, 0))) := by rw [eW]; exact setRow_heap _ _ _ _ _ _ hX
  have R5 : Hid (RsAt W h g 0) := R4.out.bel A4
  have T5 : Hid (TkAt W g (.slice none 0 0) (.int .i64 7) (.int .i64 2) (.bool false)) := T4.out.bel A4
  have B5 : Hid (Below w.heap.size w W) := B4.out.trans (A4.mono B4.out.size)
  rw [← eW]
  clear eW A4 hX R4 T4 B4
  go_wp2_with fail
  refine (nowS_E h g _ _ _ _ _ (by have := L.out; omega) R5.out T5.out).mono ?_
  rintro e w6 ⟨rfl, hr, ht, hb, hk⟩
  have X6 : w6.heap[w4.heap.size]? = some (.cells rz7 42 (0, 0)) := (hk _ (by have := L4.out; omega)).trans X5.out
  have B6 : Hid (Below w.heap.size w w6) := B5.out.trans (hb _ (by have := L.out; omega) (by have := L.out; omega))
  have c2 : w6.cell? ⟨w4.heap.size, 2, none⟩ = some (.int .i64 2) := by simp [World.cell?, X6]
  clear X6 hr ht hb hk R5 T5 B5 X5
  go_wp2
  go_ret
  exact ⟨rfl, B6.out⟩
end Go.Proofs.YtoiipiapgidbiaaGreatDoor
