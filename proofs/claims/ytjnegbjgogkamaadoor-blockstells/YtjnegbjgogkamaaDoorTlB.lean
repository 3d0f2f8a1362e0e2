/- The block of a name, of the program; no statement of the seat is proved here. -/
import Derived.Test.YtjnegbjgogkamaaDoorTlA
namespace Go.Proofs.YtjnegbjgogkamaaDoor
set_option linter.unusedVariables false
open Go.RowKit
theorem tab_0 (w : World) : (Instr.index 52 (.agg bkCells) (.int .i64 0)).run Tryd.prog w = .ok bk0 w := by kernel_rfl
set_option maxRecDepth 20000 in
set_option maxHeartbeats 8000000 in
theorem KindP_of (x : ByteArray) (w : World) : Calls Tryd.prog 6 #[.string x] w fun e w' => KRes x e ∧ Below w.heap.size w w' := by
  go_enter Tryd.func6, Tryd.ntmps6
  go_wp2_with fail
  refine (all_of _).mono ?_
  rintro e w0 ⟨rfl, hb0⟩
  have B0 : Hid (Below w.heap.size w w0) := hb0
  clear hb0
  go_wp2_with fail
  go_loopw [7] (fun v wr => ∃ k : Nat, k ≤ 11 ∧ v = .int .i64 k ∧ (∀ j : Nat, 1 ≤ j → j < k → nmT j ≠ x) ∧ Below w.heap.size w wr) (fun v _ => 11 - (intOf v).toNat)
  case atStart => exact ⟨0, by omega, rfl, fun j h1 h2 => by omega, B0.out⟩
  case round =>
    obtain ⟨k, h2, rfl, hall, hb⟩ := hrel
    have HA : Hid (∀ j : Nat, 1 ≤ j → j < k → nmT j ≠ x) := hall
    have HB : Hid (Below w.heap.size w wr) := hb
    clear hall hb
    rcases (show k = 0 ∨ k = 1 ∨ k = 2 ∨ k = 3 ∨ k = 4 ∨ k = 5 ∨ k = 6 ∨ k = 7 ∨ k = 8 ∨ k = 9 ∨ k = 10 ∨ k = 11 by omega) with rfl | rfl | rfl | rfl | rfl | rfl | rfl | rfl | rfl | rfl | rfl | rfl
    · have i := tab_0
      go_wp2_with (refine wpList_store_row rfl 51 _ _ rfl wr.heap.size _ rfl rfl _ _ (heap_alloc_last wr _) blk_info rfl (by kernel_rfl) ?_; rw [World.setRow_alloc_new])
      exact ⟨⟨1, by omega, rfl, fun j h1 h2 => by omega, HB.out.alloc HB.out.size _⟩, by simp [intOf]⟩
    · have i := tab_at1
      by_cases e : x = ⟨#[83, 82]⟩
      · subst e
        go_wp2_with (refine wpList_store_row rfl 51 _ _ rfl wr.heap.size _ rfl rfl _ _ (heap_alloc_last wr _) blk_info rfl (by kernel_rfl) ?_; rw [World.setRow_alloc_new])
        go_ret2
        exact ⟨.inl ⟨1, by omega, by omega, rfl, rfl⟩, HB.out.alloc HB.out.size _⟩
      · have q : (([83, 82] : List UInt8) == x.toList) = false := by
          have h := tl_ne (x := ⟨#[83, 82]⟩) (y := x) (fun h => e h.symm)
          rw [ByteArray.toList_eq] at h
          exact h
        have E : Hid (¬ x = ⟨#[83, 82]⟩) := e
        clear e
        go_wp2_with (refine wpList_store_row rfl 51 _ _ rfl wr.heap.size _ rfl rfl _ _ (heap_alloc_last wr _) blk_info rfl (by kernel_rfl) ?_; rw [World.setRow_alloc_new])
        refine ⟨⟨2, by omega, rfl, fun j hj1 hj2 => ?_, HB.out.alloc HB.out.size _⟩, by simp [intOf]⟩
        by_cases ej : j = 1
        · subst ej; exact fun h => E.out h.symm
        · exact HA.out j hj1 (by omega)
    · have i := tab_at2
      by_cases e : x = ⟨#[82, 83]⟩
      · subst e
        go_wp2_with (refine wpList_store_row rfl 51 _ _ rfl wr.heap.size _ rfl rfl _ _ (heap_alloc_last wr _) blk_info rfl (by kernel_rfl) ?_; rw [World.setRow_alloc_new])
        go_ret2
        exact ⟨.inl ⟨2, by omega, by omega, rfl, rfl⟩, HB.out.alloc HB.out.size _⟩
      · have q : (([82, 83] : List UInt8) == x.toList) = false := by
          have h := tl_ne (x := ⟨#[82, 83]⟩) (y := x) (fun h => e h.symm)
          rw [ByteArray.toList_eq] at h
          exact h
        have E : Hid (¬ x = ⟨#[82, 83]⟩) := e
        clear e
        go_wp2_with (refine wpList_store_row rfl 51 _ _ rfl wr.heap.size _ rfl rfl _ _ (heap_alloc_last wr _) blk_info rfl (by kernel_rfl) ?_; rw [World.setRow_alloc_new])
        refine ⟨⟨3, by omega, rfl, fun j hj1 hj2 => ?_, HB.out.alloc HB.out.size _⟩, by simp [intOf]⟩
        by_cases ej : j = 2
        · subst ej; exact fun h => E.out h.symm
        · exact HA.out j hj1 (by omega)
    · have i := tab_at3
      by_cases e : x = ⟨#[82, 95, 84, 82, 73, 71]⟩
      · subst e
        go_wp2_with (refine wpList_store_row rfl 51 _ _ rfl wr.heap.size _ rfl rfl _ _ (heap_alloc_last wr _) blk_info rfl (by kernel_rfl) ?_; rw [World.setRow_alloc_new])
        go_ret2
        exact ⟨.inl ⟨3, by omega, by omega, rfl, rfl⟩, HB.out.alloc HB.out.size _⟩
      · have q : (([82, 95, 84, 82, 73, 71] : List UInt8) == x.toList) = false := by
          have h := tl_ne (x := ⟨#[82, 95, 84, 82, 73, 71]⟩) (y := x) (fun h => e h.symm)
          rw [ByteArray.toList_eq] at h
          exact h
        have E : Hid (¬ x = ⟨#[82, 95, 84, 82, 73, 71]⟩) := e
        clear e
        go_wp2_with (refine wpList_store_row rfl 51 _ _ rfl wr.heap.size _ rfl rfl _ _ (heap_alloc_last wr _) blk_info rfl (by kernel_rfl) ?_; rw [World.setRow_alloc_new])
        refine ⟨⟨4, by omega, rfl, fun j hj1 hj2 => ?_, HB.out.alloc HB.out.size _⟩, by simp [intOf]⟩
        by_cases ej : j = 3
        · subst ej; exact fun h => E.out h.symm
        · exact HA.out j hj1 (by omega)
    · have i := tab_at4
      by_cases e : x = ⟨#[70, 95, 84, 82, 73, 71]⟩
      · subst e
        go_wp2_with (refine wpList_store_row rfl 51 _ _ rfl wr.heap.size _ rfl rfl _ _ (heap_alloc_last wr _) blk_info rfl (by kernel_rfl) ?_; rw [World.setRow_alloc_new])
        go_ret2
        exact ⟨.inl ⟨4, by omega, by omega, rfl, rfl⟩, HB.out.alloc HB.out.size _⟩
      · have q : (([70, 95, 84, 82, 73, 71] : List UInt8) == x.toList) = false := by
          have h := tl_ne (x := ⟨#[70, 95, 84, 82, 73, 71]⟩) (y := x) (fun h => e h.symm)
          rw [ByteArray.toList_eq] at h
          exact h
        have E : Hid (¬ x = ⟨#[70, 95, 84, 82, 73, 71]⟩) := e
        clear e
        go_wp2_with (refine wpList_store_row rfl 51 _ _ rfl wr.heap.size _ rfl rfl _ _ (heap_alloc_last wr _) blk_info rfl (by kernel_rfl) ?_; rw [World.setRow_alloc_new])
        refine ⟨⟨5, by omega, rfl, fun j hj1 hj2 => ?_, HB.out.alloc HB.out.size _⟩, by simp [intOf]⟩
        by_cases ej : j = 4
        · subst ej; exact fun h => E.out h.symm
        · exact HA.out j hj1 (by omega)
    · have i := tab_at5
      by_cases e : x = ⟨#[67, 84, 85]⟩
      · subst e
        go_wp2_with (refine wpList_store_row rfl 51 _ _ rfl wr.heap.size _ rfl rfl _ _ (heap_alloc_last wr _) blk_info rfl (by kernel_rfl) ?_; rw [World.setRow_alloc_new])
        go_ret2
        exact ⟨.inl ⟨5, by omega, by omega, rfl, rfl⟩, HB.out.alloc HB.out.size _⟩
      · have q : (([67, 84, 85] : List UInt8) == x.toList) = false := by
          have h := tl_ne (x := ⟨#[67, 84, 85]⟩) (y := x) (fun h => e h.symm)
          rw [ByteArray.toList_eq] at h
          exact h
        have E : Hid (¬ x = ⟨#[67, 84, 85]⟩) := e
        clear e
        go_wp2_with (refine wpList_store_row rfl 51 _ _ rfl wr.heap.size _ rfl rfl _ _ (heap_alloc_last wr _) blk_info rfl (by kernel_rfl) ?_; rw [World.setRow_alloc_new])
        refine ⟨⟨6, by omega, rfl, fun j hj1 hj2 => ?_, HB.out.alloc HB.out.size _⟩, by simp [intOf]⟩
        by_cases ej : j = 5
        · subst ej; exact fun h => E.out h.symm
        · exact HA.out j hj1 (by omega)
    · have i := tab_at6
      by_cases e : x = ⟨#[67, 84, 68]⟩
      · subst e
        go_wp2_with (refine wpList_store_row rfl 51 _ _ rfl wr.heap.size _ rfl rfl _ _ (heap_alloc_last wr _) blk_info rfl (by kernel_rfl) ?_; rw [World.setRow_alloc_new])
        go_ret2
        exact ⟨.inl ⟨6, by omega, by omega, rfl, rfl⟩, HB.out.alloc HB.out.size _⟩
      · have q : (([67, 84, 68] : List UInt8) == x.toList) = false := by
          have h := tl_ne (x := ⟨#[67, 84, 68]⟩) (y := x) (fun h => e h.symm)
          rw [ByteArray.toList_eq] at h
          exact h
        have E : Hid (¬ x = ⟨#[67, 84, 68]⟩) := e
        clear e
        go_wp2_with (refine wpList_store_row rfl 51 _ _ rfl wr.heap.size _ rfl rfl _ _ (heap_alloc_last wr _) blk_info rfl (by kernel_rfl) ?_; rw [World.setRow_alloc_new])
        refine ⟨⟨7, by omega, rfl, fun j hj1 hj2 => ?_, HB.out.alloc HB.out.size _⟩, by simp [intOf]⟩
        by_cases ej : j = 6
        · subst ej; exact fun h => E.out h.symm
        · exact HA.out j hj1 (by omega)
    · have i := tab_at7
      by_cases e : x = ⟨#[67, 84, 85, 68]⟩
      · subst e
        go_wp2_with (refine wpList_store_row rfl 51 _ _ rfl wr.heap.size _ rfl rfl _ _ (heap_alloc_last wr _) blk_info rfl (by kernel_rfl) ?_; rw [World.setRow_alloc_new])
        go_ret2
        exact ⟨.inl ⟨7, by omega, by omega, rfl, rfl⟩, HB.out.alloc HB.out.size _⟩
      · have q : (([67, 84, 85, 68] : List UInt8) == x.toList) = false := by
          have h := tl_ne (x := ⟨#[67, 84, 85, 68]⟩) (y := x) (fun h => e h.symm)
          rw [ByteArray.toList_eq] at h
          exact h
        have E : Hid (¬ x = ⟨#[67, 84, 85, 68]⟩) := e
        clear e
        go_wp2_with (refine wpList_store_row rfl 51 _ _ rfl wr.heap.size _ rfl rfl _ _ (heap_alloc_last wr _) blk_info rfl (by kernel_rfl) ?_; rw [World.setRow_alloc_new])
        refine ⟨⟨8, by omega, rfl, fun j hj1 hj2 => ?_, HB.out.alloc HB.out.size _⟩, by simp [intOf]⟩
        by_cases ej : j = 7
        · subst ej; exact fun h => E.out h.symm
        · exact HA.out j hj1 (by omega)
    · have i := tab_at8
      by_cases e : x = ⟨#[84, 80]⟩
      · subst e
        go_wp2_with (refine wpList_store_row rfl 51 _ _ rfl wr.heap.size _ rfl rfl _ _ (heap_alloc_last wr _) blk_info rfl (by kernel_rfl) ?_; rw [World.setRow_alloc_new])
        go_ret2
        exact ⟨.inl ⟨8, by omega, by omega, rfl, rfl⟩, HB.out.alloc HB.out.size _⟩
      · have q : (([84, 80] : List UInt8) == x.toList) = false := by
          have h := tl_ne (x := ⟨#[84, 80]⟩) (y := x) (fun h => e h.symm)
          rw [ByteArray.toList_eq] at h
          exact h
        have E : Hid (¬ x = ⟨#[84, 80]⟩) := e
        clear e
        go_wp2_with (refine wpList_store_row rfl 51 _ _ rfl wr.heap.size _ rfl rfl _ _ (heap_alloc_last wr _) blk_info rfl (by kernel_rfl) ?_; rw [World.setRow_alloc_new])
        refine ⟨⟨9, by omega, rfl, fun j hj1 hj2 => ?_, HB.out.alloc HB.out.size _⟩, by simp [intOf]⟩
        by_cases ej : j = 8
        · subst ej; exact fun h => E.out h.symm
        · exact HA.out j hj1 (by omega)
    · have i := tab_at9
      by_cases e : x = ⟨#[84, 79, 78]⟩
      · subst e
        go_wp2_with (refine wpList_store_row rfl 51 _ _ rfl wr.heap.size _ rfl rfl _ _ (heap_alloc_last wr _) blk_info rfl (by kernel_rfl) ?_; rw [World.setRow_alloc_new])
        go_ret2
        exact ⟨.inl ⟨9, by omega, by omega, rfl, rfl⟩, HB.out.alloc HB.out.size _⟩
      · have q : (([84, 79, 78] : List UInt8) == x.toList) = false := by
          have h := tl_ne (x := ⟨#[84, 79, 78]⟩) (y := x) (fun h => e h.symm)
          rw [ByteArray.toList_eq] at h
          exact h
        have E : Hid (¬ x = ⟨#[84, 79, 78]⟩) := e
        clear e
        go_wp2_with (refine wpList_store_row rfl 51 _ _ rfl wr.heap.size _ rfl rfl _ _ (heap_alloc_last wr _) blk_info rfl (by kernel_rfl) ?_; rw [World.setRow_alloc_new])
        refine ⟨⟨10, by omega, rfl, fun j hj1 hj2 => ?_, HB.out.alloc HB.out.size _⟩, by simp [intOf]⟩
        by_cases ej : j = 9
        · subst ej; exact fun h => E.out h.symm
        · exact HA.out j hj1 (by omega)
    · have i := tab_at10
      by_cases e : x = ⟨#[84, 79, 70]⟩
      · subst e
        go_wp2_with (refine wpList_store_row rfl 51 _ _ rfl wr.heap.size _ rfl rfl _ _ (heap_alloc_last wr _) blk_info rfl (by kernel_rfl) ?_; rw [World.setRow_alloc_new])
        go_ret2
        exact ⟨.inl ⟨10, by omega, by omega, rfl, rfl⟩, HB.out.alloc HB.out.size _⟩
      · have q : (([84, 79, 70] : List UInt8) == x.toList) = false := by
          have h := tl_ne (x := ⟨#[84, 79, 70]⟩) (y := x) (fun h => e h.symm)
          rw [ByteArray.toList_eq] at h
          exact h
        have E : Hid (¬ x = ⟨#[84, 79, 70]⟩) := e
        clear e
        go_wp2_with (refine wpList_store_row rfl 51 _ _ rfl wr.heap.size _ rfl rfl _ _ (heap_alloc_last wr _) blk_info rfl (by kernel_rfl) ?_; rw [World.setRow_alloc_new])
        refine ⟨⟨11, by omega, rfl, fun j hj1 hj2 => ?_, HB.out.alloc HB.out.size _⟩, by simp [intOf]⟩
        by_cases ej : j = 10
        · subst ej; exact fun h => E.out h.symm
        · exact HA.out j hj1 (by omega)
    · go_wp2
      go_ret2
      exact ⟨.inr ⟨fun j hj1 hj2 => HA.out j hj1 (by omega), rfl⟩, HB.out⟩
end Go.Proofs.YtjnegbjgogkamaaDoor
