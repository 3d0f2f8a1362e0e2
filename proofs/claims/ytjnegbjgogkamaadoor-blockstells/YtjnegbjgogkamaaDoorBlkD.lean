/- What a step of CTUD does to its numbers; no statement of the seat is proved here. -/
import Derived.Test.YtjnegbjgogkamaaDoorBlkB
namespace Go.Proofs.YtjnegbjgogkamaaDoor
set_option linter.unusedVariables false
open Go.RowKit
/-- Does a BOOL rise? -/
def rsB (x y : Int) : Bool := decide (x = 1 ∧ y = 0)
theorem rises_is (x y : Int) (w : World) (hx : B01 x) (hy : B01 y) : Calls Tryd.prog 66 #[.int .i64 x, .int .i64 y] w fun e w' => e = .returned (.bool (rsB x y)) ∧ w' = w := rises_of x y _ w hx hy rfl
theorem vB_0 (cu cd ld pv cv m n : Int) (h : rsB cu m = rsB cd n) (hl : ld = 0) : vB cu cd 0 ld pv cv m n = cv := by
  subst hl
  unfold rsB at h
  have e : (cu = 1 ∧ m = 0) ↔ (cd = 1 ∧ n = 0) := decide_eq_decide.1 h
  unfold vB
  by_cases c : cd = 1 ∧ n = 0 <;> simp [e, c]
theorem vB_u (cu cd pv cv m n : Int) (h : rsB cu m = true) (k : rsB cd n = false) : vB cu cd 0 0 pv cv m n = cUp cv := by
  unfold rsB at h k
  simp only [decide_eq_true_eq, decide_eq_false_iff_not] at h k
  unfold vB
  rw [if_neg (by decide), if_neg (by decide), if_pos ⟨h, k⟩]
theorem vB_d (cu cd pv cv m n : Int) (h : rsB cu m = false) (k : rsB cd n = true) : vB cu cd 0 0 pv cv m n = cDn cv := by
  unfold rsB at h k
  simp only [decide_eq_true_eq, decide_eq_false_iff_not] at h k
  unfold vB
  rw [if_neg (by decide), if_neg (by decide), if_neg (fun x => h x.1), if_pos ⟨k, h⟩]
/-- The numbers behind a step of CTUD, by its count. -/
theorem nxt_B (k now cu cd r ld pv qu qd cv m n x : Int) (h : vB cu cd r ld pv cv m n = x) : nxt k now [cu, cd, r, ld, pv, qu, qd, cv, m, n] = [cu, cd, r, ld, pv, tN (decide (pv ≤ x)), tN (decide (x ≤ 0)), x, cu, cd] := by
  simp only [nxt, h]
set_option maxHeartbeats 1000000 in
theorem countBoth_n (now cu cd pv qu qd cv m n : Int) (g : Nat) (w : World) (hcu : B01 cu) (hcd : B01 cd) (hm : B01 m) (hn : B01 n) (v1 : -32768 ≤ cv) (v2 : cv ≤ 32767) (u : rsB cu m = false) (d : rsB cd n = false) (h : NBk w g [cu, cd, 0, 0, pv, qu, qd, cv, m, n]) :
    Calls Tryd.prog 46 #[.int .i64 now, NS g 10] w fun e w' => e = .returned (.tuple #[]) ∧ Wr w w' g (nxt 7 now [cu, cd, 0, 0, pv, qu, qd, cv, m, n]) := by
  have H := Wr.refl h
  have c0 := h.cell 0 _ rfl
  have c1 := h.cell 1 _ rfl
  have c2 := h.cell 2 _ rfl
  have c3 := h.cell 3 _ rfl
  have c4 := h.cell 4 _ rfl
  have c5 := h.cell 5 _ rfl
  have c6 := h.cell 6 _ rfl
  have c7 := h.cell 7 _ rfl
  have c8 := h.cell 8 _ rfl
  have c9 := h.cell 9 _ rfl
  have f5 := h.free 5
  have f6 := h.free 6
  have f7 := h.free 7
  have f8 := h.free 8
  have f9 := h.free 9
  clear h
  have N : Hid (nxt 7 now [cu, cd, 0, 0, pv, qu, qd, cv, m, n] = [cu, cd, 0, 0, pv, tN (decide (pv ≤ cv)), tN (decide (cv ≤ 0)), cv, cu, cd]) := nxt_B _ _ _ _ _ _ _ _ _ _ _ _ _ (vB_0 _ _ _ _ _ _ _ (by rw [u, d]) rfl)
  go_enter Tryd.func46, Tryd.ntmps46
  go_wp2
  go_quiet ((go_at_call 66; exact Calls.quiet_of_same (rises_is _ _ _ (by assumption) (by assumption))))
  go_wp2
  go_region_with (go_at_call 67; refine (truth_of _ _).mono ?_; rintro e w' ⟨rfl, rfl⟩)
  all_goals
    go_wp2_with (go_at_call 67; refine (truth_of _ _).mono ?_; rintro e w' ⟨rfl, rfl⟩)
    go_region
    all_goals
      go_end0
      refine ⟨rfl, ?_⟩
      apply Wr.to
      · repeat (with_reducible (first | exact H | apply Wr.drew | apply Wr.drewN | apply Wr.set))
      · exact N.out.symm
set_option maxHeartbeats 1000000 in
theorem countBoth_d (now cu cd pv qu qd cv m n : Int) (g : Nat) (w : World) (hcu : B01 cu) (hcd : B01 cd) (hm : B01 m) (hn : B01 n) (v1 : -32768 ≤ cv) (v2 : cv ≤ 32767) (u : rsB cu m = false) (d : rsB cd n = true) (hv : -32768 < cv) (h : NBk w g [cu, cd, 0, 0, pv, qu, qd, cv, m, n]) :
    Calls Tryd.prog 46 #[.int .i64 now, NS g 10] w fun e w' => e = .returned (.tuple #[]) ∧ Wr w w' g (nxt 7 now [cu, cd, 0, 0, pv, qu, qd, cv, m, n]) := by
  have H := Wr.refl h
  have c0 := h.cell 0 _ rfl
  have c1 := h.cell 1 _ rfl
  have c2 := h.cell 2 _ rfl
  have c3 := h.cell 3 _ rfl
  have c4 := h.cell 4 _ rfl
  have c5 := h.cell 5 _ rfl
  have c6 := h.cell 6 _ rfl
  have c7 := h.cell 7 _ rfl
  have c8 := h.cell 8 _ rfl
  have c9 := h.cell 9 _ rfl
  have f5 := h.free 5
  have f6 := h.free 6
  have f7 := h.free 7
  have f8 := h.free 8
  have f9 := h.free 9
  clear h
  have N : Hid (nxt 7 now [cu, cd, 0, 0, pv, qu, qd, cv, m, n] = [cu, cd, 0, 0, pv, tN (decide (pv ≤ cv - 1)), tN (decide (cv - 1 ≤ 0)), cv - 1, cu, cd]) := nxt_B _ _ _ _ _ _ _ _ _ _ _ _ _ (by rw [vB_d _ _ _ _ _ _ u d]; simp [cDn, hv])
  go_enter Tryd.func46, Tryd.ntmps46
  go_wp2
  go_quiet ((go_at_call 66; exact Calls.quiet_of_same (rises_is _ _ _ (by assumption) (by assumption))))
  go_wp2
  go_region_with (go_at_call 67; refine (truth_of _ _).mono ?_; rintro e w' ⟨rfl, rfl⟩)
  all_goals
    go_wp2_with (go_at_call 67; refine (truth_of _ _).mono ?_; rintro e w' ⟨rfl, rfl⟩)
    go_region
    all_goals
      go_end0
      refine ⟨rfl, ?_⟩
      apply Wr.to
      · repeat (with_reducible (first | exact H | apply Wr.drew | apply Wr.drewN | apply Wr.set))
      · exact N.out.symm
set_option maxHeartbeats 1000000 in
theorem countBoth_D (now cu cd pv qu qd cv m n : Int) (g : Nat) (w : World) (hcu : B01 cu) (hcd : B01 cd) (hm : B01 m) (hn : B01 n) (v1 : -32768 ≤ cv) (v2 : cv ≤ 32767) (u : rsB cu m = false) (d : rsB cd n = true) (hv : ¬ -32768 < cv) (h : NBk w g [cu, cd, 0, 0, pv, qu, qd, cv, m, n]) :
    Calls Tryd.prog 46 #[.int .i64 now, NS g 10] w fun e w' => e = .returned (.tuple #[]) ∧ Wr w w' g (nxt 7 now [cu, cd, 0, 0, pv, qu, qd, cv, m, n]) := by
  have H := Wr.refl h
  have c0 := h.cell 0 _ rfl
  have c1 := h.cell 1 _ rfl
  have c2 := h.cell 2 _ rfl
  have c3 := h.cell 3 _ rfl
  have c4 := h.cell 4 _ rfl
  have c5 := h.cell 5 _ rfl
  have c6 := h.cell 6 _ rfl
  have c7 := h.cell 7 _ rfl
  have c8 := h.cell 8 _ rfl
  have c9 := h.cell 9 _ rfl
  have f5 := h.free 5
  have f6 := h.free 6
  have f7 := h.free 7
  have f8 := h.free 8
  have f9 := h.free 9
  clear h
  have N : Hid (nxt 7 now [cu, cd, 0, 0, pv, qu, qd, cv, m, n] = [cu, cd, 0, 0, pv, tN (decide (pv ≤ -32768)), tN true, -32768, cu, cd]) := nxt_B _ _ _ _ _ _ _ _ _ _ _ _ _ (by rw [vB_d _ _ _ _ _ _ u d]; simp [cDn, hv]; omega)
  go_enter Tryd.func46, Tryd.ntmps46
  go_wp2
  go_quiet ((go_at_call 66; exact Calls.quiet_of_same (rises_is _ _ _ (by assumption) (by assumption))))
  go_wp2
  go_region_with (go_at_call 67; refine (truth_of _ _).mono ?_; rintro e w' ⟨rfl, rfl⟩)
  all_goals
    go_wp2_with (go_at_call 67; refine (truth_of _ _).mono ?_; rintro e w' ⟨rfl, rfl⟩)
    go_region
    all_goals
      go_end0
      refine ⟨rfl, ?_⟩
      apply Wr.to
      · repeat (with_reducible (first | exact H | apply Wr.drew | apply Wr.drewN | apply Wr.set))
      · exact N.out.symm
set_option maxHeartbeats 1000000 in
theorem countBoth_u (now cu cd pv qu qd cv m n : Int) (g : Nat) (w : World) (hcu : B01 cu) (hcd : B01 cd) (hm : B01 m) (hn : B01 n) (v1 : -32768 ≤ cv) (v2 : cv ≤ 32767) (u : rsB cu m = true) (d : rsB cd n = false) (hv : cv < 32767) (h : NBk w g [cu, cd, 0, 0, pv, qu, qd, cv, m, n]) :
    Calls Tryd.prog 46 #[.int .i64 now, NS g 10] w fun e w' => e = .returned (.tuple #[]) ∧ Wr w w' g (nxt 7 now [cu, cd, 0, 0, pv, qu, qd, cv, m, n]) := by
  have H := Wr.refl h
  have c0 := h.cell 0 _ rfl
  have c1 := h.cell 1 _ rfl
  have c2 := h.cell 2 _ rfl
  have c3 := h.cell 3 _ rfl
  have c4 := h.cell 4 _ rfl
  have c5 := h.cell 5 _ rfl
  have c6 := h.cell 6 _ rfl
  have c7 := h.cell 7 _ rfl
  have c8 := h.cell 8 _ rfl
  have c9 := h.cell 9 _ rfl
  have f5 := h.free 5
  have f6 := h.free 6
  have f7 := h.free 7
  have f8 := h.free 8
  have f9 := h.free 9
  clear h
  have N : Hid (nxt 7 now [cu, cd, 0, 0, pv, qu, qd, cv, m, n] = [cu, cd, 0, 0, pv, tN (decide (pv ≤ cv + 1)), tN (decide (cv + 1 ≤ 0)), cv + 1, cu, cd]) := nxt_B _ _ _ _ _ _ _ _ _ _ _ _ _ (by rw [vB_u _ _ _ _ _ _ u d]; simp [cUp, hv])
  go_enter Tryd.func46, Tryd.ntmps46
  go_wp2
  go_quiet ((go_at_call 66; exact Calls.quiet_of_same (rises_is _ _ _ (by assumption) (by assumption))))
  go_wp2
  go_region_with (go_at_call 67; refine (truth_of _ _).mono ?_; rintro e w' ⟨rfl, rfl⟩)
  all_goals
    go_wp2_with (go_at_call 67; refine (truth_of _ _).mono ?_; rintro e w' ⟨rfl, rfl⟩)
    go_region
    all_goals
      go_end0
      refine ⟨rfl, ?_⟩
      apply Wr.to
      · repeat (with_reducible (first | exact H | apply Wr.drew | apply Wr.drewN | apply Wr.set))
      · exact N.out.symm
set_option maxHeartbeats 1000000 in
theorem countBoth_U (now cu cd pv qu qd cv m n : Int) (g : Nat) (w : World) (hcu : B01 cu) (hcd : B01 cd) (hm : B01 m) (hn : B01 n) (v1 : -32768 ≤ cv) (v2 : cv ≤ 32767) (u : rsB cu m = true) (d : rsB cd n = false) (hv : ¬ cv < 32767) (h : NBk w g [cu, cd, 0, 0, pv, qu, qd, cv, m, n]) :
    Calls Tryd.prog 46 #[.int .i64 now, NS g 10] w fun e w' => e = .returned (.tuple #[]) ∧ Wr w w' g (nxt 7 now [cu, cd, 0, 0, pv, qu, qd, cv, m, n]) := by
  have H := Wr.refl h
  have c0 := h.cell 0 _ rfl
  have c1 := h.cell 1 _ rfl
  have c2 := h.cell 2 _ rfl
  have c3 := h.cell 3 _ rfl
  have c4 := h.cell 4 _ rfl
  have c5 := h.cell 5 _ rfl
  have c6 := h.cell 6 _ rfl
  have c7 := h.cell 7 _ rfl
  have c8 := h.cell 8 _ rfl
  have c9 := h.cell 9 _ rfl
  have f5 := h.free 5
  have f6 := h.free 6
  have f7 := h.free 7
  have f8 := h.free 8
  have f9 := h.free 9
  clear h
  have N : Hid (nxt 7 now [cu, cd, 0, 0, pv, qu, qd, cv, m, n] = [cu, cd, 0, 0, pv, tN (decide (pv ≤ 32767)), tN false, 32767, cu, cd]) := nxt_B _ _ _ _ _ _ _ _ _ _ _ _ _ (by rw [vB_u _ _ _ _ _ _ u d]; simp [cUp, hv]; omega)
  go_enter Tryd.func46, Tryd.ntmps46
  go_wp2
  go_quiet ((go_at_call 66; exact Calls.quiet_of_same (rises_is _ _ _ (by assumption) (by assumption))))
  go_wp2
  go_region_with (go_at_call 67; refine (truth_of _ _).mono ?_; rintro e w' ⟨rfl, rfl⟩)
  all_goals
    go_wp2_with (go_at_call 67; refine (truth_of _ _).mono ?_; rintro e w' ⟨rfl, rfl⟩)
    go_region
    all_goals
      go_end0
      refine ⟨rfl, ?_⟩
      apply Wr.to
      · repeat (with_reducible (first | exact H | apply Wr.drew | apply Wr.drewN | apply Wr.set))
      · exact N.out.symm
set_option maxHeartbeats 1000000 in
theorem countBoth_b (now cu cd pv qu qd cv m n : Int) (g : Nat) (w : World) (hcu : B01 cu) (hcd : B01 cd) (hm : B01 m) (hn : B01 n) (v1 : -32768 ≤ cv) (v2 : cv ≤ 32767) (u : rsB cu m = true) (d : rsB cd n = true) (h : NBk w g [cu, cd, 0, 0, pv, qu, qd, cv, m, n]) :
    Calls Tryd.prog 46 #[.int .i64 now, NS g 10] w fun e w' => e = .returned (.tuple #[]) ∧ Wr w w' g (nxt 7 now [cu, cd, 0, 0, pv, qu, qd, cv, m, n]) := by
  have H := Wr.refl h
  have c0 := h.cell 0 _ rfl
  have c1 := h.cell 1 _ rfl
  have c2 := h.cell 2 _ rfl
  have c3 := h.cell 3 _ rfl
  have c4 := h.cell 4 _ rfl
  have c5 := h.cell 5 _ rfl
  have c6 := h.cell 6 _ rfl
  have c7 := h.cell 7 _ rfl
  have c8 := h.cell 8 _ rfl
  have c9 := h.cell 9 _ rfl
  have f5 := h.free 5
  have f6 := h.free 6
  have f7 := h.free 7
  have f8 := h.free 8
  have f9 := h.free 9
  clear h
  have N : Hid (nxt 7 now [cu, cd, 0, 0, pv, qu, qd, cv, m, n] = [cu, cd, 0, 0, pv, tN (decide (pv ≤ cv)), tN (decide (cv ≤ 0)), cv, cu, cd]) := nxt_B _ _ _ _ _ _ _ _ _ _ _ _ _ (vB_0 _ _ _ _ _ _ _ (by rw [u, d]) rfl)
  go_enter Tryd.func46, Tryd.ntmps46
  go_wp2
  go_quiet ((go_at_call 66; exact Calls.quiet_of_same (rises_is _ _ _ (by assumption) (by assumption))))
  go_wp2
  go_region_with (go_at_call 67; refine (truth_of _ _).mono ?_; rintro e w' ⟨rfl, rfl⟩)
  all_goals
    go_wp2_with (go_at_call 67; refine (truth_of _ _).mono ?_; rintro e w' ⟨rfl, rfl⟩)
    go_region
    all_goals
      go_end0
      refine ⟨rfl, ?_⟩
      apply Wr.to
      · repeat (with_reducible (first | exact H | apply Wr.drew | apply Wr.drewN | apply Wr.set))
      · exact N.out.symm
set_option maxHeartbeats 1000000 in
theorem countBoth_l (now cu cd pv qu qd cv m n : Int) (g : Nat) (w : World) (hcu : B01 cu) (hcd : B01 cd) (hm : B01 m) (hn : B01 n) (v1 : -32768 ≤ cv) (v2 : cv ≤ 32767)  (h : NBk w g [cu, cd, 0, 1, pv, qu, qd, cv, m, n]) :
    Calls Tryd.prog 46 #[.int .i64 now, NS g 10] w fun e w' => e = .returned (.tuple #[]) ∧ Wr w w' g (nxt 7 now [cu, cd, 0, 1, pv, qu, qd, cv, m, n]) := by
  have H := Wr.refl h
  have c0 := h.cell 0 _ rfl
  have c1 := h.cell 1 _ rfl
  have c2 := h.cell 2 _ rfl
  have c3 := h.cell 3 _ rfl
  have c4 := h.cell 4 _ rfl
  have c5 := h.cell 5 _ rfl
  have c6 := h.cell 6 _ rfl
  have c7 := h.cell 7 _ rfl
  have c8 := h.cell 8 _ rfl
  have c9 := h.cell 9 _ rfl
  have f5 := h.free 5
  have f6 := h.free 6
  have f7 := h.free 7
  have f8 := h.free 8
  have f9 := h.free 9
  clear h
  have N : Hid (nxt 7 now [cu, cd, 0, 1, pv, qu, qd, cv, m, n] = [cu, cd, 0, 1, pv, tN true, tN (decide (pv ≤ 0)), pv, cu, cd]) := by show _ = _; rw [nxt_B 7 now cu cd 0 1 pv qu qd cv m n pv rfl]; simp
  go_enter Tryd.func46, Tryd.ntmps46
  go_wp2
  go_quiet ((go_at_call 66; exact Calls.quiet_of_same (rises_is _ _ _ (by assumption) (by assumption))))
  go_wp2
  go_region_with (go_at_call 67; refine (truth_of _ _).mono ?_; rintro e w' ⟨rfl, rfl⟩)
  all_goals
    go_wp2_with (go_at_call 67; refine (truth_of _ _).mono ?_; rintro e w' ⟨rfl, rfl⟩)
    go_region
    all_goals
      go_end0
      refine ⟨rfl, ?_⟩
      apply Wr.to
      · repeat (with_reducible (first | exact H | apply Wr.drew | apply Wr.drewN | apply Wr.set))
      · exact N.out.symm
set_option maxHeartbeats 1000000 in
theorem countBoth_r (now cu cd ld pv qu qd cv m n : Int) (g : Nat) (w : World) (hcu : B01 cu) (hcd : B01 cd) (hm : B01 m) (hn : B01 n) (v1 : -32768 ≤ cv) (v2 : cv ≤ 32767)  (h : NBk w g [cu, cd, 1, ld, pv, qu, qd, cv, m, n]) :
    Calls Tryd.prog 46 #[.int .i64 now, NS g 10] w fun e w' => e = .returned (.tuple #[]) ∧ Wr w w' g (nxt 7 now [cu, cd, 1, ld, pv, qu, qd, cv, m, n]) := by
  have H := Wr.refl h
  have c0 := h.cell 0 _ rfl
  have c1 := h.cell 1 _ rfl
  have c2 := h.cell 2 _ rfl
  have c3 := h.cell 3 _ rfl
  have c4 := h.cell 4 _ rfl
  have c5 := h.cell 5 _ rfl
  have c6 := h.cell 6 _ rfl
  have c7 := h.cell 7 _ rfl
  have c8 := h.cell 8 _ rfl
  have c9 := h.cell 9 _ rfl
  have f5 := h.free 5
  have f6 := h.free 6
  have f7 := h.free 7
  have f8 := h.free 8
  have f9 := h.free 9
  clear h
  have N : Hid (nxt 7 now [cu, cd, 1, ld, pv, qu, qd, cv, m, n] = [cu, cd, 1, ld, pv, tN (decide (pv ≤ 0)), tN true, 0, cu, cd]) := nxt_B _ _ _ _ _ _ _ _ _ _ _ _ _ rfl
  go_enter Tryd.func46, Tryd.ntmps46
  go_wp2
  go_quiet ((go_at_call 66; exact Calls.quiet_of_same (rises_is _ _ _ (by assumption) (by assumption))))
  go_wp2
  go_region_with (go_at_call 67; refine (truth_of _ _).mono ?_; rintro e w' ⟨rfl, rfl⟩)
  all_goals
    go_wp2_with (go_at_call 67; refine (truth_of _ _).mono ?_; rintro e w' ⟨rfl, rfl⟩)
    go_region
    all_goals
      go_end0
      refine ⟨rfl, ?_⟩
      apply Wr.to
      · repeat (with_reducible (first | exact H | apply Wr.drew | apply Wr.drewN | apply Wr.set))
      · exact N.out.symm
theorem countBoth_of (now cu cd r ld pv qu qd cv m n : Int) (g : Nat) (w : World) (hcu : B01 cu) (hcd : B01 cd) (hr : B01 r) (hld : B01 ld) (hm : B01 m) (hn : B01 n) (hcv : -32768 ≤ cv ∧ cv ≤ 32767) (h : NBk w g [cu, cd, r, ld, pv, qu, qd, cv, m, n]) :
    Calls Tryd.prog 46 #[.int .i64 now, NS g 10] w fun e w' => e = .returned (.tuple #[]) ∧ Wr w w' g (nxt 7 now [cu, cd, r, ld, pv, qu, qd, cv, m, n]) := by
  obtain ⟨v1, v2⟩ := hcv
  rcases hr with rfl | rfl
  · rcases hld with rfl | rfl
    · cases u : rsB cu m <;> cases d : rsB cd n
      · exact countBoth_n _ _ _ _ _ _ _ _ _ _ _ hcu hcd hm hn v1 v2 u d h
      · by_cases hv : -32768 < cv
        · exact countBoth_d _ _ _ _ _ _ _ _ _ _ _ hcu hcd hm hn v1 v2 u d hv h
        · exact countBoth_D _ _ _ _ _ _ _ _ _ _ _ hcu hcd hm hn v1 v2 u d hv h
      · by_cases hv : cv < 32767
        · exact countBoth_u _ _ _ _ _ _ _ _ _ _ _ hcu hcd hm hn v1 v2 u d hv h
        · exact countBoth_U _ _ _ _ _ _ _ _ _ _ _ hcu hcd hm hn v1 v2 u d hv h
      · exact countBoth_b _ _ _ _ _ _ _ _ _ _ _ hcu hcd hm hn v1 v2 u d h
    · exact countBoth_l _ _ _ _ _ _ _ _ _ _ _ hcu hcd hm hn v1 v2 h
  · exact countBoth_r _ _ _ _ _ _ _ _ _ _ _ _ hcu hcd hm hn v1 v2 h
end Go.Proofs.YtjnegbjgogkamaaDoor
