/- What a step of TON does to its numbers; no statement of the seat is proved here. -/
import Derived.Test.YtjnegbjgogkamaaDoorBlkE
namespace Go.Proofs.YtjnegbjgogkamaaDoor
set_option linter.unusedVariables false
open Go.RowKit
set_option maxHeartbeats 2000000 in
theorem onDelay_of (now a b c d e s : Int) (g : Nat) (w : World) (ha : B01 a) (hc : B01 c) (he : B01 e) (hn : 0 ≤ now ∧ now ≤ 4611686018427387904) (hs : -9223372036854775808 ≤ s ∧ s < 9223372036854775808) (hp : -9223372036854775808 ≤ b ∧ b < 9223372036854775808) (h : NBk w g [a, b, c, d, e, s]) :
    Calls Tryd.prog 48 #[.int .i64 now, NS g 6] w fun x w' => x = .returned (.tuple #[]) ∧ Wr w w' g (nxt 9 now [a, b, c, d, e, s]) := by
  have H := Wr.refl h
  have t0 : tN false = 0 := rfl
  have t1 : tN true = 1 := rfl
  have c0 := h.cell 0 _ rfl
  have c1 := h.cell 1 _ rfl
  have c2 := h.cell 2 _ rfl
  have c3 := h.cell 3 _ rfl
  have c4 := h.cell 4 _ rfl
  have c5 := h.cell 5 _ rfl
  have f2 := h.free 2
  have f3 := h.free 3
  have f4 := h.free 4
  have f5 := h.free 5
  clear h
  have hn2 : -9223372036854775808 ≤ now ∧ now < 9223372036854775808 := by omega
  rcases ha with rfl | rfl
  · have N : Hid (nxt 9 now [0, b, c, d, e, s] = [0, b, 0, 0, 0, s]) := by show _ = _; simp [nxt]
    go_enter Tryd.func48, Tryd.ntmps48
    go_wp2_with (go_at_call 67; refine (truth_of _ _).mono ?_; rintro e w' ⟨rfl, rfl⟩)
    go_end0
    refine ⟨rfl, ?_⟩
    apply Wr.to
    · repeat (with_reducible (first | exact H | apply Wr.drew | apply Wr.drewN | apply Wr.set))
    · exact N.out.symm
  · rcases he with rfl | rfl
    · by_cases ov : spn b ≤ sinc now now
      · have OV : Hid (true = decide (spn b ≤ sinc now now)) := by show _ = _; simp [ov]
        have N : Hid (nxt 9 now [1, b, c, d, 0, s] = [1, b, 1, els now now b, 1, now]) := by show _ = _; simp [nxt, ov, tN]
        clear ov
        go_enter Tryd.func48, Tryd.ntmps48
        go_wp2
        go_quiet ((go_at_call 68; exact Calls.quiet_of_same (elapsed_is _ _ _ true _ hn hn2 hp OV.out)))
        go_wp2_with (go_at_call 67; refine (truth_of _ _).mono ?_; rintro e w' ⟨rfl, rfl⟩)
        go_end0
        refine ⟨rfl, ?_⟩
        apply Wr.to
        · repeat (with_reducible (first | exact H | apply Wr.drew | apply Wr.drewN | apply Wr.set))
        · exact N.out.symm
      · have OV : Hid (false = decide (spn b ≤ sinc now now)) := by show _ = _; simp [ov]
        have N : Hid (nxt 9 now [1, b, c, d, 0, s] = [1, b, 0, els now now b, 1, now]) := by show _ = _; simp [nxt, ov, tN]
        clear ov
        go_enter Tryd.func48, Tryd.ntmps48
        go_wp2
        go_quiet ((go_at_call 68; exact Calls.quiet_of_same (elapsed_is _ _ _ false _ hn hn2 hp OV.out)))
        go_wp2_with (go_at_call 67; refine (truth_of _ _).mono ?_; rintro e w' ⟨rfl, rfl⟩)
        go_end0
        refine ⟨rfl, ?_⟩
        apply Wr.to
        · repeat (with_reducible (first | exact H | apply Wr.drew | apply Wr.drewN | apply Wr.set))
        · exact N.out.symm
    · by_cases ov : spn b ≤ sinc now s
      · have OV : Hid (true = decide (spn b ≤ sinc now s)) := by show _ = _; simp [ov]
        have N : Hid (nxt 9 now [1, b, c, d, 1, s] = [1, b, 1, els now s b, 1, s]) := by show _ = _; simp [nxt, ov, tN]
        clear ov
        go_enter Tryd.func48, Tryd.ntmps48
        go_wp2
        go_quiet ((go_at_call 68; exact Calls.quiet_of_same (elapsed_is _ _ _ true _ hn hs hp OV.out)))
        go_wp2_with (go_at_call 67; refine (truth_of _ _).mono ?_; rintro e w' ⟨rfl, rfl⟩)
        go_end0
        refine ⟨rfl, ?_⟩
        apply Wr.to
        · repeat (with_reducible (first | exact H | apply Wr.drew | apply Wr.drewN | apply Wr.set))
        · exact N.out.symm
      · have OV : Hid (false = decide (spn b ≤ sinc now s)) := by show _ = _; simp [ov]
        have N : Hid (nxt 9 now [1, b, c, d, 1, s] = [1, b, 0, els now s b, 1, s]) := by show _ = _; simp [nxt, ov, tN]
        clear ov
        go_enter Tryd.func48, Tryd.ntmps48
        go_wp2
        go_quiet ((go_at_call 68; exact Calls.quiet_of_same (elapsed_is _ _ _ false _ hn hs hp OV.out)))
        go_wp2_with (go_at_call 67; refine (truth_of _ _).mono ?_; rintro e w' ⟨rfl, rfl⟩)
        go_end0
        refine ⟨rfl, ?_⟩
        apply Wr.to
        · repeat (with_reducible (first | exact H | apply Wr.drew | apply Wr.drewN | apply Wr.set))
        · exact N.out.symm
end Go.Proofs.YtjnegbjgogkamaaDoor
