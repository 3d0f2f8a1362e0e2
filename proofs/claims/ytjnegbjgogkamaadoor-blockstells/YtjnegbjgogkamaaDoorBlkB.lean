/- What a step of a counter does to its numbers; no statement of the seat is proved here. -/
import Derived.Test.YtjnegbjgogkamaaDoorBlkA
import Derived.Deep.RegionWith
import Derived.BigQuiet
import Derived.Deep.QuietTactic
namespace Go.Proofs.YtjnegbjgogkamaaDoor
set_option linter.unusedVariables false
open Go.RowKit
theorem truth_of (p : Bool) (w : World) : Calls Tryd.prog 67 #[.bool p] w fun e w' => e = .returned (.int .i64 (tN p)) ∧ w' = w := by
  cases p
  all_goals
    go_enter Tryd.func67, Tryd.ntmps67
    go_wp2
    go_ret
    exact ⟨rfl, rfl⟩
theorem rises_of (x y : Int) (p : Bool) (w : World) (hx : B01 x) (hy : B01 y) (hp : p = decide (x = 1 ∧ y = 0)) : Calls Tryd.prog 66 #[.int .i64 x, .int .i64 y] w fun e w' => e = .returned (.bool p) ∧ w' = w := by
  subst hp
  rcases hx with rfl | rfl <;> rcases hy with rfl | rfl
  all_goals
    go_enter Tryd.func66, Tryd.ntmps66
    go_wp2
    go_ret
    exact ⟨rfl, rfl⟩
set_option maxHeartbeats 1000000 in
theorem countUp_of (now cu r pv q cv m : Int) (g : Nat) (w : World) (hcu : B01 cu) (hr : B01 r) (hm : B01 m) (hcv : -32768 ≤ cv ∧ cv ≤ 32767) (h : NBk w g [cu, r, pv, q, cv, m]) :
    Calls Tryd.prog 44 #[.int .i64 now, NS g 6] w fun e w' => e = .returned (.tuple #[]) ∧ Wr w w' g (nxt 5 now [cu, r, pv, q, cv, m]) := by
  have H := Wr.refl h
  have c0 := h.cell 0 _ rfl
  have c1 := h.cell 1 _ rfl
  have c2 := h.cell 2 _ rfl
  have c3 := h.cell 3 _ rfl
  have c4 := h.cell 4 _ rfl
  have c5 := h.cell 5 _ rfl
  have f3 := h.free 3
  have f4 := h.free 4
  have f5 := h.free 5
  clear h
  obtain ⟨v1, v2⟩ := hcv
  rcases hr with rfl | rfl
  · by_cases hp : cu = 1 ∧ m = 0
    · obtain ⟨rfl, rfl⟩ := hp
      by_cases hv : cv < 32767
      · have N : Hid (nxt 5 now [1, 0, pv, q, cv, 0] = [1, 0, pv, tN (decide (pv ≤ cv + 1)), cv + 1, 1]) := by show _ = _; simp [nxt, vU, cUp, hv]
        go_enter Tryd.func44, Tryd.ntmps44
        go_wp2
        go_quiet ((go_at_call 66; exact Calls.quiet_of_same (rises_of _ _ _ _ (by decide) (by decide) rfl)))
        go_wp2
        go_region_with (go_at_call 67; refine (truth_of _ _).mono ?_; rintro e w' ⟨rfl, rfl⟩)
        all_goals
          go_wp2
          go_end0
          refine ⟨rfl, ?_⟩
          apply Wr.to
          · repeat (with_reducible (first | exact H | apply Wr.drew | apply Wr.drewN | apply Wr.set))
          · exact N.out.symm
      · have N : Hid (nxt 5 now [1, 0, pv, q, cv, 0] = [1, 0, pv, tN (decide (pv ≤ 32767)), 32767, 1]) := by
          have e : cv = 32767 := by omega
          subst e; show _ = _; simp [nxt, vU, cUp]
        go_enter Tryd.func44, Tryd.ntmps44
        go_wp2
        go_quiet ((go_at_call 66; exact Calls.quiet_of_same (rises_of _ _ _ _ (by decide) (by decide) rfl)))
        go_wp2
        go_region_with (go_at_call 67; refine (truth_of _ _).mono ?_; rintro e w' ⟨rfl, rfl⟩)
        all_goals
          go_wp2
          go_end0
          refine ⟨rfl, ?_⟩
          apply Wr.to
          · repeat (with_reducible (first | exact H | apply Wr.drew | apply Wr.drewN | apply Wr.set))
          · exact N.out.symm
    · have P : Hid (false = decide (cu = 1 ∧ m = 0)) := by show _ = _; simp [hp]
      have N : Hid (nxt 5 now [cu, 0, pv, q, cv, m] = [cu, 0, pv, tN (decide (pv ≤ cv)), cv, cu]) := by show _ = _; simp [nxt, vU, hp]
      clear hp
      go_enter Tryd.func44, Tryd.ntmps44
      go_wp2
      go_quiet ((go_at_call 66; exact Calls.quiet_of_same (rises_of _ _ false _ hcu hm P.out)))
      go_wp2
      go_region_with (go_at_call 67; refine (truth_of _ _).mono ?_; rintro e w' ⟨rfl, rfl⟩)
      all_goals
        go_wp2
        go_end0
        refine ⟨rfl, ?_⟩
        apply Wr.to
        · repeat (with_reducible (first | exact H | apply Wr.drew | apply Wr.drewN | apply Wr.set))
        · exact N.out.symm
  · go_enter Tryd.func44, Tryd.ntmps44
    go_wp2
    go_region_with (go_at_call 67; refine (truth_of _ _).mono ?_; rintro e w' ⟨rfl, rfl⟩)
    all_goals
      go_wp2
      go_end0
      refine ⟨rfl, ?_⟩
      apply Wr.to
      · repeat (with_reducible (first | exact H | apply Wr.drew | apply Wr.drewN | apply Wr.set))
      · exact rfl
end Go.Proofs.YtjnegbjgogkamaaDoor
