/- What a step of TP does to its numbers; no statement of the seat is proved here. -/
import Derived.Test.YtjnegbjgogkamaaDoorBlkE
namespace Go.Proofs.YtjnegbjgogkamaaDoor
set_option linter.unusedVariables false
open Go.RowKit
set_option maxHeartbeats 2000000 in
theorem pulse_of (now a b c d e s : Int) (g : Nat) (w : World) (ha : B01 a) (hc : B01 c) (he : B01 e) (hn : 0 ≤ now ∧ now ≤ 4611686018427387904) (hs : -9223372036854775808 ≤ s ∧ s < 9223372036854775808) (hp : -9223372036854775808 ≤ b ∧ b < 9223372036854775808) (h : NBk w g [a, b, c, d, e, s]) :
    Calls Tryd.prog 47 #[.int .i64 now, NS g 6] w fun x w' => x = .returned (.tuple #[]) ∧ Wr w w' g (nxt 8 now [a, b, c, d, e, s]) := by
  have H := Wr.refl h
  have t0 : tN false = 0 := rfl
  have t1 : tN true = 1 := rfl
  have c0 := h.cell 0 _ rfl
  have c1 := h.cell 1 _ rfl
  have c2 := h.cell 2 _ rfl
  have c3 := h.cell 3 _ rfl
  have c4 := h.cell 4 _ rfl
  have c5 := h.cell 5 _ rfl
  have f2 := h.free 2
  have f3 := h.free 3
  have f4 := h.free 4
  have f5 := h.free 5
  clear h
  rcases hc with rfl | rfl
  · by_cases hr : a = 1 ∧ e = 0
    · obtain ⟨rfl, rfl⟩ := hr
      have N : Hid (nxt 8 now [1, b, 0, d, 0, s] = [1, b, tN (decide (0 < b)), 0, 1, now]) := by show _ = _; simp [nxt, pQ]
      go_enter Tryd.func47, Tryd.ntmps47
      go_wp2
      go_quiet ((go_at_call 66; exact Calls.quiet_of_same (rises_of _ _ _ _ (by decide) (by decide) rfl)))
      go_wp2_with (go_at_call 67; refine (truth_of _ _).mono ?_; rintro e w' ⟨rfl, rfl⟩)
      go_end0
      refine ⟨rfl, ?_⟩
      apply Wr.to
      · repeat (with_reducible (first | exact H | apply Wr.drew | apply Wr.drewN | apply Wr.set))
      · exact N.out.symm
    · rcases ha with rfl | rfl
      · have N : Hid (nxt 8 now [0, b, 0, d, e, s] = [0, b, 0, 0, 0, s]) := by show _ = _; simp [nxt, pQ]
        have P : Hid (false = decide ((0 : Int) = 1 ∧ e = 0)) := by show _ = _; simp
        clear hr
        go_enter Tryd.func47, Tryd.ntmps47
        go_wp2
        go_quiet ((go_at_call 66; exact Calls.quiet_of_same (rises_of _ _ false _ (by decide) he P.out)))
        go_wp2_with (go_at_call 67; refine (truth_of _ _).mono ?_; rintro e w' ⟨rfl, rfl⟩)
        go_end0
        refine ⟨rfl, ?_⟩
        apply Wr.to
        · repeat (with_reducible (first | exact H | apply Wr.drew | apply Wr.drewN | apply Wr.set))
        · exact N.out.symm
      · have e1 : e = 1 := by
          rcases he with rfl | rfl
          · exact absurd ⟨rfl, rfl⟩ hr
          · rfl
        subst e1
        have N : Hid (nxt 8 now [1, b, 0, d, 1, s] = [1, b, 0, d, 1, s]) := by show _ = _; simp [nxt, pQ, pE]
        clear hr
        go_enter Tryd.func47, Tryd.ntmps47
        go_wp2
        go_quiet ((go_at_call 66; exact Calls.quiet_of_same (rises_of _ _ _ _ (by decide) (by decide) rfl)))
        go_wp2_with (go_at_call 67; refine (truth_of _ _).mono ?_; rintro e w' ⟨rfl, rfl⟩)
        go_end0
        refine ⟨rfl, ?_⟩
        apply Wr.to
        · repeat (with_reducible (first | exact H | apply Wr.drew | apply Wr.drewN | apply Wr.set))
        · exact N.out.symm
  · by_cases ov : spn b ≤ sinc now s
    · have OV : Hid (true = decide (spn b ≤ sinc now s)) := by show _ = _; simp [ov]
      have T : Hid (spn b ≤ sinc now s) := ov
      clear ov
      by_cases hr : a = 1 ∧ e = 0
      · obtain ⟨rfl, rfl⟩ := hr
        have N : Hid (nxt 8 now [1, b, 1, d, 0, s] = [1, b, tN (decide (0 < b)), 0, 1, now]) := by show _ = _; simp [nxt, pQ, T.out, tN]
        go_enter Tryd.func47, Tryd.ntmps47
        go_wp2
        go_quiet ((go_at_call 68; exact Calls.quiet_of_same (elapsed_is _ _ _ true _ hn hs hp OV.out)))
        go_wp2_with (go_at_call 67; refine (truth_of _ _).mono ?_; rintro e w' ⟨rfl, rfl⟩)
        go_quiet ((go_at_call 66; exact Calls.quiet_of_same (rises_of _ _ _ _ (by decide) (by decide) rfl)))
        go_wp2_with (go_at_call 67; refine (truth_of _ _).mono ?_; rintro e w' ⟨rfl, rfl⟩)
        go_end0
        refine ⟨rfl, ?_⟩
        apply Wr.to
        · repeat (with_reducible (first | exact H | apply Wr.drew | apply Wr.drewN | apply Wr.set))
        · exact N.out.symm
      · rcases ha with rfl | rfl
        · have N : Hid (nxt 8 now [0, b, 1, d, e, s] = [0, b, 0, 0, 0, s]) := by show _ = _; simp [nxt, pQ, T.out, tN]
          have P : Hid (false = decide ((0 : Int) = 1 ∧ e = 0)) := by show _ = _; simp
          clear hr
          go_enter Tryd.func47, Tryd.ntmps47
          go_wp2
          go_quiet ((go_at_call 68; exact Calls.quiet_of_same (elapsed_is _ _ _ true _ hn hs hp OV.out)))
          go_wp2_with (go_at_call 67; refine (truth_of _ _).mono ?_; rintro e w' ⟨rfl, rfl⟩)
          go_quiet ((go_at_call 66; exact Calls.quiet_of_same (rises_of _ _ false _ (by decide) he P.out)))
          go_wp2_with (go_at_call 67; refine (truth_of _ _).mono ?_; rintro e w' ⟨rfl, rfl⟩)
          go_end0
          refine ⟨rfl, ?_⟩
          apply Wr.to
          · repeat (with_reducible (first | exact H | apply Wr.drew | apply Wr.drewN | apply Wr.set))
          · exact N.out.symm
        · have e1 : e = 1 := by
            rcases he with rfl | rfl
            · exact absurd ⟨rfl, rfl⟩ hr
            · rfl
          subst e1
          have N : Hid (nxt 8 now [1, b, 1, d, 1, s] = [1, b, 0, els now s b, 1, s]) := by show _ = _; simp [nxt, pQ, pE, T.out, tN]
          clear hr
          go_enter Tryd.func47, Tryd.ntmps47
          go_wp2
          go_quiet ((go_at_call 68; exact Calls.quiet_of_same (elapsed_is _ _ _ true _ hn hs hp OV.out)))
          go_wp2_with (go_at_call 67; refine (truth_of _ _).mono ?_; rintro e w' ⟨rfl, rfl⟩)
          go_quiet ((go_at_call 66; exact Calls.quiet_of_same (rises_of _ _ _ _ (by decide) (by decide) rfl)))
          go_wp2_with (go_at_call 67; refine (truth_of _ _).mono ?_; rintro e w' ⟨rfl, rfl⟩)
          go_end0
          refine ⟨rfl, ?_⟩
          apply Wr.to
          · repeat (with_reducible (first | exact H | apply Wr.drew | apply Wr.drewN | apply Wr.set))
          · exact N.out.symm
    · have OV : Hid (false = decide (spn b ≤ sinc now s)) := by show _ = _; simp [ov]
      have N : Hid (nxt 8 now [a, b, 1, d, e, s] = [a, b, 1, els now s b, a, s]) := by show _ = _; simp [nxt, pQ, pE, ov, tN]
      clear ov
      go_enter Tryd.func47, Tryd.ntmps47
      go_wp2
      go_quiet ((go_at_call 68; exact Calls.quiet_of_same (elapsed_is _ _ _ false _ hn hs hp OV.out)))
      go_wp2_with (go_at_call 67; refine (truth_of _ _).mono ?_; rintro e w' ⟨rfl, rfl⟩)
      go_end0
      refine ⟨rfl, ?_⟩
      apply Wr.to
      · repeat (with_reducible (first | exact H | apply Wr.drew | apply Wr.drewN | apply Wr.set))
      · exact N.out.symm
end Go.Proofs.YtjnegbjgogkamaaDoor
