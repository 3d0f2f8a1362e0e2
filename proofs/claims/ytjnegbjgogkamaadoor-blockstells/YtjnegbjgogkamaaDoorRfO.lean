/- Step of no block, and of cells too few or too many, of the program and of the document; no statement of the seat is proved here. -/
import Derived.Test.YtjnegbjgogkamaaDoorBlkX
import Derived.Test.YtjnegbjgogkamaaDoorBlkY
import Derived.Test.YtjnegbjgogkamaaDoorRfL
namespace Go.Proofs.YtjnegbjgogkamaaDoor
set_option linter.unusedVariables false
open Go.RowKit
theorem fn_nilT (w : World) : (binOp .eql 49 .nilFunc .nilFunc).run Tryd.prog w = .ok (.bool true) w := by kernel_rfl
set_option maxHeartbeats 1000000 in
theorem numbered_bad (K : Int) (w : World) (h : K ≤ 0 ∨ 11 ≤ K) : Calls Tryd.prog 25 #[.int .i64 K] w fun e w' => e = .returned bk0 ∧ Below w.heap.size w w' := by
  by_cases c : K ≤ 0
  · go_enter Tryd.func25, Tryd.ntmps25
    go_wp2_with (refine wpList_store_row rfl 51 _ _ rfl w.heap.size _ rfl rfl _ _ (heap_alloc_last w _) blk_info rfl (by kernel_rfl) ?_)
    exact bodyPost_ret (v := bk0) (results_cell_row Tryd.results25 _ _ w.heap.size _ _ (0, 0) _ (by first | rfl | simp [Act.put]) (setRow_heap _ _ _ _ _ _ (heap_alloc_last w _)) Tryd.underlying51 rfl blk_info) rfl ⟨rfl, below_setRow ((Below.refl _ _).alloc (Nat.le_refl _) _) (Nat.le_refl _) _⟩
  · have d : 11 ≤ K := by omega
    go_enter Tryd.func25, Tryd.ntmps25
    go_wp2_with (refine wpList_store_row rfl 51 _ _ rfl w.heap.size _ rfl rfl _ _ (heap_alloc_last w _) blk_info rfl (by kernel_rfl) ?_)
    exact bodyPost_ret (v := bk0) (results_cell_row Tryd.results25 _ _ w.heap.size _ _ (0, 0) _ (by first | rfl | simp [Act.put]) (setRow_heap _ _ _ _ _ _ (heap_alloc_last w _)) Tryd.underlying51 rfl blk_info) rfl ⟨rfl, below_setRow ((Below.refl _ _).alloc (Nat.le_refl _) _) (Nat.le_refl _) _⟩
set_option maxHeartbeats 1000000 in
theorem Step_bad (K now : Int) (x : Value) (w : World) (h : K ≤ 0 ∨ 11 ≤ K) : Calls Tryd.prog 18 #[.int .i64 K, x, .int .i64 now] w fun e w' => e = .returned (.tuple #[.slice none 0 0, .int .i64 8]) ∧ Below w.heap.size w w' := by
  have fe := fn_nilT
  have HK : Hid (K ≤ 0 ∨ 11 ≤ K) := h
  clear h
  go_enter Tryd.func18, Tryd.ntmps18
  go_wp2_with (first | (go_at_call 25; refine (numbered_bad K _ HK.out).mono ?_; rintro e w1 ⟨rfl, hb⟩; have HB : Hid _ := hb; clear hb) | (refine wpList_store_row rfl 51 _ _ rfl w1.heap.size _ rfl rfl _ _ (heap_alloc_last w1 _) blk_info rfl (by kernel_rfl) ?_; rw [World.setRow_alloc_new]))
  go_ret2
  exact ⟨rfl, HB.out.alloc HB.out.size _⟩
section
variable (K : Int) (nm names ks : ByteArray) (ins outs : Int) (f : Nat) (ad : Option Addr) (n cap : Nat) (now : Int) (w : World)
set_option maxHeartbeats 1000000 in
theorem takes_len (fn : Value) (hn : ¬ n = ks.size) : Calls Tryd.prog 32 #[BV nm names ks ins outs fn, .slice ad n cap] w fun e w' => e = .returned (.bool false) ∧ Below w.heap.size w w' := by
  have h1 : ((n : Int) != ks.size) = true := by simp; omega
  have h2 : ¬ (n : Int) = ks.size := by omega
  go_enter Tryd.func32, Tryd.ntmps32
  go_wp2
  go_ret
  exact ⟨rfl, (Below.refl _ _).alloc (Nat.le_refl _) _⟩
set_option maxHeartbeats 1000000 in
theorem Step_len (hN : ∀ w, Calls Tryd.prog 25 #[.int .i64 K] w fun e w' => e = .returned (BV nm names ks ins outs (FN f)) ∧ Below w.heap.size w w') (hn : ¬ n = ks.size) :
    Calls Tryd.prog 18 #[.int .i64 K, .slice ad n cap, .int .i64 now] w fun e w' => e = .returned (.tuple #[.slice none 0 0, .int .i64 8]) ∧ Below w.heap.size w w' := by
  have HN : Hid _ := hN
  have HE : Hid _ := hn
  clear hN hn
  have fe := fn_nil f
  go_enter Tryd.func18, Tryd.ntmps18
  go_wp2_with (first | (go_at_call 25; refine (HN.out _).mono ?_; rintro e w1 ⟨rfl, hb⟩; have HB : Hid _ := hb; clear hb) | (refine wpList_store_row rfl 51 _ _ rfl w1.heap.size _ rfl rfl _ _ (heap_alloc_last w1 _) blk_info rfl (by kernel_rfl) ?_; rw [World.setRow_alloc_new]) | (go_at_call 32; refine (takes_len _ _ _ _ _ _ _ _ _ _ HE.out).mono ?_; rintro e w2 ⟨rfl, hb2⟩; have HB2 : Hid _ := hb2; clear hb2))
  go_ret2
  exact ⟨rfl, HB.out.trans ((((Below.refl _ _).alloc (Nat.le_refl _) _).trans (HB2.out.mono (by simp))).mono HB.out.size)⟩
end
set_option maxHeartbeats 4000000 in
theorem VarsR_bad (K : Int) (w : World) (h : K ≤ 0 ∨ 11 ≤ K) : Calls Tryd.prog 14 #[.int .i64 K] w fun e w' => e = .returned (.slice none 0 0) ∧ w' = w := by
  have k1 : ¬ K = 1 := by omega
  have k2 : ¬ K = 2 := by omega
  have k3 : ¬ K = 3 := by omega
  have k4 : ¬ K = 4 := by omega
  have k5 : ¬ K = 5 := by omega
  have k6 : ¬ K = 6 := by omega
  have k7 : ¬ K = 7 := by omega
  have k8 : ¬ K = 8 := by omega
  have k9 : ¬ K = 9 := by omega
  have k10 : ¬ K = 10 := by omega
  clear h
  go_enter Tryd.func14, Tryd.ntmps14
  go_wp2
  go_ret
  exact ⟨rfl, rfl⟩
set_option maxHeartbeats 1000000 in
theorem StepR_bad (K now : Int) (x : Value) (w : World) (h : K ≤ 0 ∨ 11 ≤ K) : Calls Tryd.prog 21 #[.int .i64 K, x, .int .i64 now] w fun e w' => e = .returned (.tuple #[.slice none 0 0, .int .i64 8]) ∧ Below w.heap.size w w' := by
  have HK : Hid (K ≤ 0 ∨ 11 ≤ K) := h
  clear h
  go_enter Tryd.func21, Tryd.ntmps21
  go_wp2_with (go_at_call 14; refine (VarsR_bad K _ HK.out).mono ?_; rintro e w1 ⟨rfl, rfl⟩)
  go_ret2
  exact ⟨rfl, Below.refl _ _⟩
set_option maxHeartbeats 1000000 in
theorem StepR_len (K now : Int) (m : Nat) (ad : Option Addr) (n cap : Nat) (w : World) (hV : ∀ w, Calls Tryd.prog 14 #[.int .i64 K] w fun e w' => ∃ g c, e = .returned (.slice (some ⟨g, 0, none⟩) m c) ∧ Below w.heap.size w w') (hm : 0 < m) (hn : ¬ n = m) :
    Calls Tryd.prog 21 #[.int .i64 K, .slice ad n cap, .int .i64 now] w fun e w' => e = .returned (.tuple #[.slice none 0 0, .int .i64 8]) ∧ Below w.heap.size w w' := by
  have HV : Hid _ := hV
  have h1 : ¬ (n : Int) = m := by omega
  have h2 : ¬ (m : Int) = 0 := by omega
  have h3 : ((m : Int) == 0) = false := by simpa using h2
  have h4 : ((n : Int) != m) = true := by simpa using h1
  clear hV
  go_enter Tryd.func21, Tryd.ntmps21
  go_wp2_with (go_at_call 14; refine (HV.out _).mono ?_; rintro e w1 ⟨g, c, rfl, hb⟩; have HB : Hid _ := hb; clear hb)
  go_ret2
  exact ⟨rfl, HB.out⟩
end Go.Proofs.YtjnegbjgogkamaaDoor
