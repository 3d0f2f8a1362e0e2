/- What a step of CTD does to its numbers; no statement of the seat is proved here. -/
import Derived.Test.YtjnegbjgogkamaaDoorBlkB
namespace Go.Proofs.YtjnegbjgogkamaaDoor
set_option linter.unusedVariables false
open Go.RowKit
set_option maxHeartbeats 1000000 in
theorem countDown_of (now cd ld pv q cv m : Int) (g : Nat) (w : World) (hcd : B01 cd) (hld : B01 ld) (hm : B01 m) (hcv : -32768 ≤ cv ∧ cv ≤ 32767) (h : NBk w g [cd, ld, pv, q, cv, m]) :
    Calls Tryd.prog 45 #[.int .i64 now, NS g 6] w fun e w' => e = .returned (.tuple #[]) ∧ Wr w w' g (nxt 6 now [cd, ld, pv, q, cv, m]) := by
  have H := Wr.refl h
  have c0 := h.cell 0 _ rfl
  have c1 := h.cell 1 _ rfl
  have c2 := h.cell 2 _ rfl
  have c3 := h.cell 3 _ rfl
  have c4 := h.cell 4 _ rfl
  have c5 := h.cell 5 _ rfl
  have f3 := h.free 3
  have f4 := h.free 4
  have f5 := h.free 5
  clear h
  obtain ⟨v1, v2⟩ := hcv
  rcases hld with rfl | rfl
  · by_cases hp : cd = 1 ∧ m = 0
    · obtain ⟨rfl, rfl⟩ := hp
      by_cases hv : -32768 < cv
      · have N : Hid (nxt 6 now [1, 0, pv, q, cv, 0] = [1, 0, pv, tN (decide (cv - 1 ≤ 0)), cv - 1, 1]) := by show _ = _; simp [nxt, vD, cDn, hv]
        go_enter Tryd.func45, Tryd.ntmps45
        go_wp2
        go_quiet ((go_at_call 66; exact Calls.quiet_of_same (rises_of _ _ _ _ (by decide) (by decide) rfl)))
        go_wp2_with (go_at_call 67; refine (truth_of _ _).mono ?_; rintro e w' ⟨rfl, rfl⟩)
        go_end0
        refine ⟨rfl, ?_⟩
        apply Wr.to
        · repeat (with_reducible (first | exact H | apply Wr.drew | apply Wr.drewN | apply Wr.set))
        · exact N.out.symm
      · have N : Hid (nxt 6 now [1, 0, pv, q, cv, 0] = [1, 0, pv, tN true, -32768, 1]) := by
          have e : cv = -32768 := by omega
          subst e; show _ = _; simp [nxt, vD, cDn]
        go_enter Tryd.func45, Tryd.ntmps45
        go_wp2
        go_quiet ((go_at_call 66; exact Calls.quiet_of_same (rises_of _ _ _ _ (by decide) (by decide) rfl)))
        go_wp2_with (go_at_call 67; refine (truth_of _ _).mono ?_; rintro e w' ⟨rfl, rfl⟩)
        go_end0
        refine ⟨rfl, ?_⟩
        apply Wr.to
        · repeat (with_reducible (first | exact H | apply Wr.drew | apply Wr.drewN | apply Wr.set))
        · exact N.out.symm
    · have P : Hid (false = decide (cd = 1 ∧ m = 0)) := by show _ = _; simp [hp]
      have N : Hid (nxt 6 now [cd, 0, pv, q, cv, m] = [cd, 0, pv, tN (decide (cv ≤ 0)), cv, cd]) := by show _ = _; simp [nxt, vD, hp]
      clear hp
      go_enter Tryd.func45, Tryd.ntmps45
      go_wp2
      go_quiet ((go_at_call 66; exact Calls.quiet_of_same (rises_of _ _ false _ hcd hm P.out)))
      go_wp2_with (go_at_call 67; refine (truth_of _ _).mono ?_; rintro e w' ⟨rfl, rfl⟩)
      go_end0
      refine ⟨rfl, ?_⟩
      apply Wr.to
      · repeat (with_reducible (first | exact H | apply Wr.drew | apply Wr.drewN | apply Wr.set))
      · exact N.out.symm
  · have N : Hid (nxt 6 now [cd, 1, pv, q, cv, m] = [cd, 1, pv, tN (decide (pv ≤ 0)), pv, cd]) := by show _ = _; simp [nxt, vD]
    go_enter Tryd.func45, Tryd.ntmps45
    go_wp2_with (go_at_call 67; refine (truth_of _ _).mono ?_; rintro e w' ⟨rfl, rfl⟩)
    go_end0
    refine ⟨rfl, ?_⟩
    apply Wr.to
    · repeat (with_reducible (first | exact H | apply Wr.drew | apply Wr.drewN | apply Wr.set))
    · exact N.out.symm
end Go.Proofs.YtjnegbjgogkamaaDoor
