/- What a step of a timer does to its numbers; no statement of the seat is proved here. -/
import Derived.Test.YtjnegbjgogkamaaDoorBlkB
namespace Go.Proofs.YtjnegbjgogkamaaDoor
set_option linter.unusedVariables false
open Go.RowKit
theorem ret_ib {a b : Int} {p q : Bool} (h : a = b) (k : p = q) : Ending.returned (.tuple #[.int .i64 a, .bool p]) = .returned (.tuple #[.int .i64 b, .bool q]) := by rw [h, k]
theorem dc_t {p : Prop} [Decidable p] (h : p) : true = decide p := by simp [h]
theorem dc_f {p : Prop} [Decidable p] (h : ¬ p) : false = decide p := by simp [h]
set_option maxHeartbeats 1000000 in
theorem elapsed_of (now s pt : Int) (w : World) (hn : 0 ≤ now ∧ now ≤ 4611686018427387904) (hs : -9223372036854775808 ≤ s ∧ s < 9223372036854775808) (hp : -9223372036854775808 ≤ pt ∧ pt < 9223372036854775808) :
    Calls Tryd.prog 68 #[.int .i64 now, .int .i64 s, .int .i64 pt] w fun e w' => e = .returned (.tuple #[.int .i64 (els now s pt), .bool (decide (spn pt ≤ sinc now s))]) ∧ w' = w := by
  obtain ⟨n1, n2⟩ := hn
  obtain ⟨s1, s2⟩ := hs
  obtain ⟨p1, p2⟩ := hp
  by_cases a : 0 ≤ s ∧ s ≤ now
  · obtain ⟨a1, a2⟩ := a
    have S : Hid (sinc now s = now - s) := by show _ = _; simp [sinc, a1, a2]
    by_cases b : pt < 0
    · have T : Hid (spn pt = 0) := by show _ = _; simp [spn, b]
      go_enter Tryd.func68, Tryd.ntmps68
      go_wp2
      all_goals
        go_ret2
        exact ⟨ret_ib (by unfold els; rw [S.out, T.out]; first | (rw [if_pos (by omega)]; omega) | (rw [if_neg (by omega)]; omega) | rw [if_pos (by omega)] | rw [if_neg (by omega)]) (by rw [S.out, T.out]; first | rfl | exact dc_t (by omega) | exact dc_f (by omega)), rfl⟩
    · have T : Hid (spn pt = pt) := by show _ = _; simp [spn, b]
      by_cases c : pt ≤ now - s
      all_goals
        go_enter Tryd.func68, Tryd.ntmps68
        go_wp2
        all_goals
          go_ret2
          exact ⟨ret_ib (by unfold els; rw [S.out, T.out]; first | (rw [if_pos (by omega)]; omega) | (rw [if_neg (by omega)]; omega) | rw [if_pos (by omega)] | rw [if_neg (by omega)]) (by rw [S.out, T.out]; first | rfl | exact dc_t (by omega) | exact dc_f (by omega)), rfl⟩
  · have S : Hid (sinc now s = 0) := by show _ = _; simp [sinc, a]
    have a' : s < 0 ∨ now < s := by omega
    clear a
    by_cases b : pt < 0
    · have T : Hid (spn pt = 0) := by show _ = _; simp [spn, b]
      rcases a' with a' | a'
      all_goals
        go_enter Tryd.func68, Tryd.ntmps68
        go_wp2
        all_goals
          go_ret2
          exact ⟨ret_ib (by unfold els; rw [S.out, T.out]; first | (rw [if_pos (by omega)]; omega) | (rw [if_neg (by omega)]; omega) | rw [if_pos (by omega)] | rw [if_neg (by omega)]) (by rw [S.out, T.out]; first | rfl | exact dc_t (by omega) | exact dc_f (by omega)), rfl⟩
    · have T : Hid (spn pt = pt) := by show _ = _; simp [spn, b]
      by_cases c : pt ≤ 0
      all_goals
        rcases a' with a' | a'
        all_goals
          go_enter Tryd.func68, Tryd.ntmps68
          go_wp2
          all_goals
            go_ret2
            exact ⟨ret_ib (by unfold els; rw [S.out, T.out]; first | (rw [if_pos (by omega)]; omega) | (rw [if_neg (by omega)]; omega) | rw [if_pos (by omega)] | rw [if_neg (by omega)]) (by rw [S.out, T.out]; first | rfl | exact dc_t (by omega) | exact dc_f (by omega)), rfl⟩
theorem elapsed_is (now s pt : Int) (o : Bool) (w : World) (hn : 0 ≤ now ∧ now ≤ 4611686018427387904) (hs : -9223372036854775808 ≤ s ∧ s < 9223372036854775808) (hp : -9223372036854775808 ≤ pt ∧ pt < 9223372036854775808) (ho : o = decide (spn pt ≤ sinc now s)) :
    Calls Tryd.prog 68 #[.int .i64 now, .int .i64 s, .int .i64 pt] w fun e w' => e = .returned (.tuple #[.int .i64 (els now s pt), .bool o]) ∧ w' = w := by
  subst ho; exact elapsed_of now s pt w hn hs hp
end Go.Proofs.YtjnegbjgogkamaaDoor
