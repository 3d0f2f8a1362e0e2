/- What numbered answers for every number, and Name; no statement of the seat is proved here. -/
import Derived.Test.YtkanhbokdjppoaaGreatDoorStdV
import Derived.Test.YtkanhbokdjppoaaGreatDoorWdB
namespace Go.Proofs.YtkanhbokdjppoaaGreatDoor
set_option linter.unusedVariables false
open Go.RowKit
/-- The function that converts to a kind. -/
def fuC (k : Nat) : Fu := ⟨⟨#[84, 79, 95]⟩ ++ kw k, ⟨#[73, 78]⟩, 0, k, some 91, some 92⟩
theorem kw_size (k : Nat) : (kw k).size ≤ 100 := by
  unfold kw
  rcases Nat.lt_or_ge k 20 with h | h
  · have : ∀ i : Fin 20, (kwL.getD i.1 ⟨#[]⟩).size ≤ 100 := by decide
    exact this ⟨k, h⟩
  · have : kwL[k]? = none := List.getElem?_eq_none (by have : kwL.length = 20 := rfl; omega)
    rw [List.getD_eq_getElem?_getD, this]; decide
theorem wd_kw (k : Nat) (h : 1 ≤ k ∧ k ≤ 19) : wdS (k : Int) = kw k := by unfold wdS; rw [if_pos (by omega)]; rfl
set_option maxHeartbeats 1000000 in
theorem conversion_of (k : Nat) (h : 1 ≤ k ∧ k ≤ 19) (w : World) (hk : KW w) :
    Calls Tryz.prog 41 #[.int .u8 k] w fun e w' => e = .returned (FV (fuC k)) ∧ Below w.heap.size w w' := by
  have W : Hid (∀ w, KW w → Calls Tryz.prog 90 #[.int .u8 k] w fun e w' => e = .returned (.string (kw k)) ∧ w' = w) := fun w hw => by
    have := Word_of k w hw (by omega); rwa [wd_kw k h] at this
  have HK : Hid (KW w) := hk
  have cc : ∀ w, (Op.stringOp .add ⟨#[84, 79, 95]⟩ (kw k)).run Tryz.prog w = .ok (.string (⟨#[84, 79, 95]⟩ ++ kw k)) w := fun w => run_string_add_sum w _ _ (by have := kw_size k; have e : (⟨#[84, 79, 95]⟩ : ByteArray).size = 3 := rfl; omega)
  clear hk
  go_enter Tryz.func41, Tryz.ntmps41
  go_wp2_with (first | (go_at_call 90; refine (W.out _ (HK.out.next ((Below.refl _ _).alloc (Nat.le_refl _) _))).mono ?_; rintro e w1 ⟨rfl, h1⟩; subst h1) | (refine wpList_store_row rfl 54 _ _ rfl w.heap.size _ rfl rfl _ _ (heap_alloc_last w _) fun_info rfl (by kernel_rfl) ?_; rw [World.setRow_alloc_new]))
  exact bodyPost_ret (v := FV (fuC k)) (results_cell_row Tryz.results41 _ _ w.heap.size _ _ (0, 0) _ (by simp [Act.put]) (heap_alloc_last w _) Tryz.underlying54 rfl fun_info) rfl ⟨rfl, (Below.refl _ _).alloc (Nat.le_refl _) _⟩
theorem Count_of (w : World) : Calls Tryz.prog 15 #[] w fun e w' => e = .returned (.int .i64 84) ∧ w' = w := by
  go_enter Tryz.func15, Tryz.ntmps15
  go_wp2
  go_ret
  exact ⟨rfl, rfl⟩
set_option maxRecDepth 20000 in
set_option maxHeartbeats 1000000 in
theorem numbered_C (k : Nat) (h : 1 ≤ k ∧ k ≤ 19) (w : World) (hk : KW w) :
    Calls Tryz.prog 23 #[.int .i64 (64 + (k : Int))] w fun e w' => e = .returned (FV (fuC k)) ∧ Below w.heap.size w w' := by
  have C : Hid (∀ (z : Int) w, z = k → KW w → Calls Tryz.prog 41 #[.int .u8 z] w fun e w' => e = .returned (FV (fuC k)) ∧ Below w.heap.size w w') := fun z w hz hw => by subst hz; exact conversion_of k h w hw
  have HK : Hid (KW w) := hk
  clear hk
  have g1 : (1 : Int) ≤ k := by omega
  have g2 : (k : Int) ≤ 19 := by omega
  go_enter Tryz.func23, Tryz.ntmps23
  go_wp2_with (first | (go_at_call 15; refine (Count_of _).mono ?_; rintro e wC ⟨rfl, hC⟩; subst hC) | (go_at_call 37; refine (functions_of _).mono ?_; rintro e w1 ⟨rfl, hb⟩; obtain ⟨hc, HB⟩ := step_fu hb; clear hb) | (refine wpList_store_row rfl 67 _ _ rfl w1.heap.size fuCells (by kernel_rfl) (by kernel_rfl) _ _ (heap_alloc_last w1 _) fu_info (by kernel_rfl) (by kernel_rfl) ?_; rw [World.setRow_alloc_new]; have bb : Below w1.heap.size w1 (w1.alloc (.cells fuCells 67)) := (Below.refl _ _).alloc (Nat.le_refl _) _; have HB2 : Hid (Below w.heap.size w (w1.alloc (.cells fuCells 67))) := HB.trans (bb.mono HB.size); have hd : (w1.alloc (.cells fuCells 67)).heap[w.heap.size]? = _ := (bb.block _ (lt_of_block hc)).trans hc; clear bb; generalize (w1.alloc (.cells fuCells 67)) = w2 at *) | (go_at_call 41; refine (C.out _ _ (by first | rfl | omega | (simp; done) | (simp; omega)) (HK.out.next HB2.out)).mono ?_; rintro e w3 ⟨rfl, hb3⟩; have HB3 : Hid (Below w.heap.size w w3) := HB2.out.trans (hb3.mono HB2.out.size); have he : w3.heap[w.heap.size]? = _ := (hb3.block _ (lt_of_block hd)).trans hd; clear hb3) | (refine wpList_store_row rfl 54 _ _ rfl w.heap.size _ rfl rfl _ _ he fun_info rfl (by kernel_rfl) ?_))
  exact bodyPost_ret (v := FV (fuC k)) (results_cell_row Tryz.results23 _ _ w.heap.size _ _ (0, 0) _ (by simp [Act.put]) (setRow_heap _ _ _ _ _ _ he) Tryz.underlying54 rfl fun_info) rfl ⟨rfl, below_setRow HB3.out (Nat.le_refl _) _⟩
set_option maxRecDepth 20000 in
set_option maxHeartbeats 1000000 in
theorem numbered_0 (z : Int) (h1 : z < 1 ∨ 36 < z) (h2 : z < 65 ∨ 83 < z) (w : World) :
    Calls Tryz.prog 23 #[.int .i64 z] w fun e w' => e = .returned (FV fu0) ∧ Below w.heap.size w w' := by
  rcases (by omega : z < 1 ∨ (36 < z ∧ z < 65) ∨ 83 < z) with h | h | h
  all_goals
    clear h1 h2
    try obtain ⟨h, h'⟩ := h
    go_enter Tryz.func23, Tryz.ntmps23
    go_wp2_with (first | (go_at_call 15; refine (Count_of _).mono ?_; rintro e wC ⟨rfl, hC⟩; subst hC) | (go_at_call 37; refine (functions_of _).mono ?_; rintro e w1 ⟨rfl, hb⟩; obtain ⟨hc, HB⟩ := step_fu hb; clear hb) | (refine wpList_store_row rfl 67 _ _ rfl w1.heap.size fuCells (by kernel_rfl) (by kernel_rfl) _ _ (heap_alloc_last w1 _) fu_info (by kernel_rfl) (by kernel_rfl) ?_; rw [World.setRow_alloc_new]; have bb : Below w1.heap.size w1 (w1.alloc (.cells fuCells 67)) := (Below.refl _ _).alloc (Nat.le_refl _) _; have HB2 : Hid (Below w.heap.size w (w1.alloc (.cells fuCells 67))) := HB.trans (bb.mono HB.size); have hd : (w1.alloc (.cells fuCells 67)).heap[w.heap.size]? = _ := (bb.block _ (lt_of_block hc)).trans hc; clear bb; generalize (w1.alloc (.cells fuCells 67)) = w2 at *) | (refine wpList_store_row rfl 54 _ _ rfl w.heap.size _ rfl rfl _ _ hd fun_info rfl (by kernel_rfl) ?_))
    exact bodyPost_ret (v := FV fu0) (results_cell_row Tryz.results23 _ _ w.heap.size _ _ (0, 0) _ (by first | (simp; done) | simp [Act.put]) (setRow_heap _ _ _ _ _ _ hd) Tryz.underlying54 rfl fun_info) rfl ⟨rfl, below_setRow HB2.out (Nat.le_refl _) _⟩
/-- The function of any number. -/
def fuA (z : Int) : Fu := if 1 ≤ z ∧ z ≤ 36 then fuT z.toNat else if 65 ≤ z ∧ z ≤ 83 then fuC (z - 64).toNat else fu0
theorem numbered_any (z : Int) (w : World) (hk : KW w) : Calls Tryz.prog 23 #[.int .i64 z] w fun e w' => e = .returned (FV (fuA z)) ∧ Below w.heap.size w w' := by
  unfold fuA
  by_cases a : 1 ≤ z ∧ z ≤ 36
  · rw [if_pos a]
    obtain ⟨n, rfl⟩ : ∃ n : Nat, z = n := ⟨z.toNat, by omega⟩
    exact numbered_K n (by omega) (by omega) w
  · rw [if_neg a]
    by_cases b : 65 ≤ z ∧ z ≤ 83
    · rw [if_pos b]
      obtain ⟨n, rfl⟩ : ∃ n : Nat, z = 64 + (n : Int) := ⟨(z - 64).toNat, by omega⟩
      have e : (64 + (n : Int) - 64).toNat = n := by omega
      rw [e]
      exact numbered_C n (by omega) w hk
    · rw [if_neg b]; exact numbered_0 z (by omega) (by omega) w
end Go.Proofs.YtkanhbokdjppoaaGreatDoor
