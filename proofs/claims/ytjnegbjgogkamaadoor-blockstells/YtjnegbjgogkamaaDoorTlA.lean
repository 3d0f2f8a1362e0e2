/- Names and sizes of blocks, of the program and of the document; no statement of the seat is proved here. -/
import Derived.Test.YtjnegbjgogkamaaDoorBlkT
import Derived.Test.YtjnegbjgogkamaaDoorRfA
import Derived.Handy
namespace Go.Proofs.YtjnegbjgogkamaaDoor
set_option linter.unusedVariables false
open Go.RowKit
/-- A block's name. -/
def nmT (K : Int) : ByteArray := if K = 1 then ⟨#[83, 82]⟩ else if K = 2 then ⟨#[82, 83]⟩ else if K = 3 then ⟨#[82, 95, 84, 82, 73, 71]⟩ else if K = 4 then ⟨#[70, 95, 84, 82, 73, 71]⟩ else if K = 5 then ⟨#[67, 84, 85]⟩ else if K = 6 then ⟨#[67, 84, 68]⟩ else if K = 7 then ⟨#[67, 84, 85, 68]⟩ else if K = 8 then ⟨#[84, 80]⟩ else if K = 9 then ⟨#[84, 79, 78]⟩ else if K = 10 then ⟨#[84, 79, 70]⟩ else ⟨#[]⟩
/-- A block's size. -/
def szT (K : Int) : Int := if K = 1 ∨ K = 2 ∨ K = 3 ∨ K = 4 then 3 else if K = 7 then 10 else if K = 5 ∨ K = 6 ∨ K = 8 ∨ K = 9 ∨ K = 10 then 6 else 0
theorem Kc (K : Int) : (K ≤ 0 ∨ 11 ≤ K) ∨ K = 1 ∨ K = 2 ∨ K = 3 ∨ K = 4 ∨ K = 5 ∨ K = 6 ∨ K = 7 ∨ K = 8 ∨ K = 9 ∨ K = 10 := by omega
theorem nmT_bad {K : Int} (h : K ≤ 0 ∨ 11 ≤ K) : nmT K = ⟨#[]⟩ := by
  unfold nmT; rw [if_neg (by omega), if_neg (by omega), if_neg (by omega), if_neg (by omega), if_neg (by omega), if_neg (by omega), if_neg (by omega), if_neg (by omega), if_neg (by omega), if_neg (by omega)]
theorem szT_bad {K : Int} (h : K ≤ 0 ∨ 11 ≤ K) : szT K = 0 := by
  unfold szT; rw [if_neg (by omega), if_neg (by omega), if_neg (by omega)]
set_option maxHeartbeats 1000000 in
theorem numbered_bad' (K : Int) (w : World) (h : K ≤ 0 ∨ 11 ≤ K) : Calls Tryd.prog 25 #[.int .i64 K] w fun e w' => e = .returned bk0 ∧ Below w.heap.size w w' := by
  by_cases c : K ≤ 0
  · go_enter Tryd.func25, Tryd.ntmps25
    go_wp2_with (refine wpList_store_row rfl 51 _ _ rfl w.heap.size _ rfl rfl _ _ (heap_alloc_last w _) blk_info rfl (by kernel_rfl) ?_)
    exact bodyPost_ret (v := bk0) (results_cell_row Tryd.results25 _ _ w.heap.size _ _ (0, 0) _ (by first | rfl | simp [Act.put]) (setRow_heap _ _ _ _ _ _ (heap_alloc_last w _)) Tryd.underlying51 rfl blk_info) rfl ⟨rfl, below_setRow ((Below.refl _ _).alloc (Nat.le_refl _) _) (Nat.le_refl _) _⟩
  · have d : 11 ≤ K := by omega
    go_enter Tryd.func25, Tryd.ntmps25
    go_wp2_with (refine wpList_store_row rfl 51 _ _ rfl w.heap.size _ rfl rfl _ _ (heap_alloc_last w _) blk_info rfl (by kernel_rfl) ?_)
    exact bodyPost_ret (v := bk0) (results_cell_row Tryd.results25 _ _ w.heap.size _ _ (0, 0) _ (by first | rfl | simp [Act.put]) (setRow_heap _ _ _ _ _ _ (heap_alloc_last w _)) Tryd.underlying51 rfl blk_info) rfl ⟨rfl, below_setRow ((Below.refl _ _).alloc (Nat.le_refl _) _) (Nat.le_refl _) _⟩
/-- A block of a number: name and kinds. -/
theorem numbered_any (K : Int) : ∃ names ks ins outs fn, (ks.size : Int) = szT K ∧ ∀ w, Calls Tryd.prog 25 #[.int .i64 K] w fun e w' => e = .returned (BV (nmT K) names ks ins outs fn) ∧ Below w.heap.size w w' := by
  rcases Kc K with h | rfl | rfl | rfl | rfl | rfl | rfl | rfl | rfl | rfl | rfl
  · exact ⟨⟨#[]⟩, ⟨#[]⟩, 0, 0, .nilFunc, by rw [szT_bad h]; rfl, fun w => by rw [nmT_bad h]; exact numbered_bad' K w h⟩
  · exact ⟨_, _, _, _, _, rfl, fun w => numbered_1 w⟩
  · exact ⟨_, _, _, _, _, rfl, fun w => numbered_2 w⟩
  · exact ⟨_, _, _, _, _, rfl, fun w => numbered_3 w⟩
  · exact ⟨_, _, _, _, _, rfl, fun w => numbered_4 w⟩
  · exact ⟨_, _, _, _, _, rfl, fun w => numbered_5 w⟩
  · exact ⟨_, _, _, _, _, rfl, fun w => numbered_6 w⟩
  · exact ⟨_, _, _, _, _, rfl, fun w => numbered_7 w⟩
  · exact ⟨_, _, _, _, _, rfl, fun w => numbered_8 w⟩
  · exact ⟨_, _, _, _, _, rfl, fun w => numbered_9 w⟩
  · exact ⟨_, _, _, _, _, rfl, fun w => numbered_10 w⟩
theorem blk_f0 (nm names ks : ByteArray) (ins outs : Int) (fn : Value) (w : World) : (Instr.field 51 (BV nm names ks ins outs fn) 0).run Tryd.prog w = .ok (.string nm) w := by kernel_rfl
theorem blk_f2 (nm names ks : ByteArray) (ins outs : Int) (fn : Value) (w : World) : (Instr.field 51 (BV nm names ks ins outs fn) 2).run Tryd.prog w = .ok (.string ks) w := by kernel_rfl
set_option maxRecDepth 20000 in
set_option maxHeartbeats 1000000 in
theorem NameP_of (K : Int) (w : World) : Calls Tryd.prog 8 #[.int .i64 K] w fun e w' => e = .returned (.string (nmT K)) ∧ Below w.heap.size w w' := by
  obtain ⟨names, ks, ins, outs, fn, hs, hN⟩ := numbered_any K
  have HN : Hid _ := hN
  clear hN hs
  generalize nmT K = nmk at *
  have f0 := blk_f0 nmk names ks ins outs fn
  have f2 := blk_f2 nmk names ks ins outs fn
  go_enter Tryd.func8, Tryd.ntmps8
  go_wp2_with (first | (go_at_call 25; refine (HN.out _).mono ?_; rintro e w1 ⟨rfl, hb⟩; have HB : Hid _ := hb; clear hb) | (refine wpList_store_row rfl 51 _ _ rfl w1.heap.size _ rfl rfl _ _ (heap_alloc_last w1 _) blk_info rfl (by kernel_rfl) ?_; rw [World.setRow_alloc_new]))
  go_ret
  exact ⟨rfl, HB.out⟩
set_option maxRecDepth 20000 in
set_option maxHeartbeats 1000000 in
theorem SizeP_of (K : Int) (w : World) : Calls Tryd.prog 10 #[.int .i64 K] w fun e w' => e = .returned (.int .i64 (szT K)) ∧ Below w.heap.size w w' := by
  obtain ⟨names, ks, ins, outs, fn, hs, hN⟩ := numbered_any K
  have HN : Hid _ := hN
  have HS : Hid _ := hs
  clear hN hs
  generalize nmT K = nmk at *
  have f0 := blk_f0 nmk names ks ins outs fn
  have f2 := blk_f2 nmk names ks ins outs fn
  go_enter Tryd.func10, Tryd.ntmps10
  go_wp2_with (first | (go_at_call 25; refine (HN.out _).mono ?_; rintro e w1 ⟨rfl, hb⟩; have HB : Hid _ := hb; clear hb) | (refine wpList_store_row rfl 51 _ _ rfl w1.heap.size _ rfl rfl _ _ (heap_alloc_last w1 _) blk_info rfl (by kernel_rfl) ?_; rw [World.setRow_alloc_new]))
  go_ret
  exact ⟨ret_int HS.out, HB.out⟩
set_option maxHeartbeats 2000000 in
theorem NameR_of (K : Int) (w : World) : Calls Tryd.prog 9 #[.int .i64 K] w fun e w' => e = .returned (.string (nmT K)) ∧ Below w.heap.size w w' := by
  by_cases c : K < 0
  · have R : Hid (nmT K = ⟨#[]⟩) := nmT_bad (.inl (by omega))
    go_enter Tryd.func9, Tryd.ntmps9
    go_wp2
    go_ret
    exact ⟨by rw [R.out]; rfl, (Below.refl _ _).alloc (Nat.le_refl _) _⟩
  by_cases d : 11 ≤ K
  · have R : Hid (nmT K = ⟨#[]⟩) := nmT_bad (.inr d)
    go_enter Tryd.func9, Tryd.ntmps9
    go_wp2
    go_ret
    exact ⟨by rw [R.out]; rfl, (Below.refl _ _).alloc (Nat.le_refl _) _⟩
  rcases (show K = 0 ∨ K = 1 ∨ K = 2 ∨ K = 3 ∨ K = 4 ∨ K = 5 ∨ K = 6 ∨ K = 7 ∨ K = 8 ∨ K = 9 ∨ K = 10 by omega) with rfl | rfl | rfl | rfl | rfl | rfl | rfl | rfl | rfl | rfl | rfl
  all_goals
    go_enter Tryd.func9, Tryd.ntmps9
    go_wp2
    go_ret
    exact ⟨rfl, (Below.refl _ _).alloc (Nat.le_refl _) _⟩
/-- What is answered of a name: the block's number, or none. -/
def KRes (x : ByteArray) (e : Ending) : Prop := (∃ k : Nat, 1 ≤ k ∧ k ≤ 10 ∧ nmT k = x ∧ e = .returned (.tuple #[.int .i64 k, .bool true])) ∨ ((∀ k : Nat, 1 ≤ k → k ≤ 10 → nmT k ≠ x) ∧ e = .returned (.tuple #[.int .i64 0, .bool false]))
set_option maxHeartbeats 2000000 in
theorem KindR_of (x : ByteArray) (w : World) : Calls Tryd.prog 7 #[.string x] w fun e w' => KRes x e ∧ Below w.heap.size w w' := by
  go_enter Tryd.func7, Tryd.ntmps7
  go_wp2_with fail
  go_loopw [4] (fun v wr => ∃ k : Nat, 1 ≤ k ∧ k ≤ 11 ∧ v = .int .i64 k ∧ (∀ j : Nat, 1 ≤ j → j < k → nmT j ≠ x) ∧ Below w.heap.size w wr) (fun v _ => 11 - (intOf v).toNat)
  case atStart => exact ⟨1, by omega, by omega, rfl, fun j h1 h2 => by omega, Below.refl _ _⟩
  case round =>
    obtain ⟨k, h1, h2, rfl, hall, hb⟩ := hrel
    have HA : Hid (∀ j : Nat, 1 ≤ j → j < k → nmT j ≠ x) := hall
    have HB : Hid (Below w.heap.size w wr) := hb
    clear hall hb
    by_cases c : k ≤ 10
    · have c' : (k : Int) ≤ 10 := by omega
      go_wp2_with fail
      refine (NameR_of _ _).mono ?_
      rintro e w1 ⟨rfl, hb1⟩
      have B1 : Hid (Below w.heap.size w w1) := HB.out.trans (hb1.mono HB.out.size)
      clear hb1
      by_cases e : nmT k = x
      · have E : Hid (nmT k = x) := e
        have q : ((nmT k).toList == x.toList) = true := by rw [e]; simp
        generalize hy : nmT (k : Int) = y at *
        have HY : Hid (nmT (k : Int) = y) := hy
        clear hy
        go_wp2
        go_ret2
        exact ⟨.inl ⟨k, h1, c, HY.out.trans E.out, rfl⟩, B1.out⟩
      · have E : Hid (¬ nmT k = x) := e
        have q := tl_ne e
        generalize hy : nmT (k : Int) = y at *
        have HY : Hid (nmT (k : Int) = y) := hy
        clear hy
        go_wp2
        refine ⟨⟨k + 1, by omega, by omega, by go_num, fun j hj1 hj2 => ?_, B1.out⟩, by simp [intOf]; omega⟩
        by_cases ej : j = k
        · subst ej; rw [HY.out]; exact E.out
        · exact HA.out j hj1 (by omega)
    · have c' : ¬ (k : Int) ≤ 10 := by omega
      have ek : k = 11 := by omega
      go_wp2
      go_ret2
      exact ⟨.inr ⟨fun j hj1 hj2 => HA.out j hj1 (by omega), rfl⟩, HB.out⟩
end Go.Proofs.YtjnegbjgogkamaaDoor
