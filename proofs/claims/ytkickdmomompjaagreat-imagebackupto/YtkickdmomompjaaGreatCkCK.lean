/- image: may a cell be; no statement of the seat is proved here. -/
import Derived.Test.YtkickdmomompjaaGreatKoA4
namespace Go.Proofs.YtkickdmomompjaaGreat
set_option linter.unusedVariables false
open Go.RowKit
theorem bl_tr {w W w1 : World} (h : Below w.heap.size w W) (hb : Below W.heap.size W w1) : Below w.heap.size w w1 := h.trans (hb.mono h.size)
/-- A cell as a value. -/
abbrev CeV (c : CeR) : Value := .agg #[.int .u8 c.kd, .bool c.sb, .int .i64 c.lo, .int .i64 c.hi, .int .i64 c.mx, .int .u8 c.ik, .int .u64 c.ib, .string c.is, .bool c.kp, .int .i64 c.dr, .string c.ad]
set_option maxHeartbeats 4000000 in
theorem mayBound_of (c : CeR) (w : World) : Calls Tryz.prog 60 #[CeV c] w fun e w' => e = .returned (.bool (bdB c)) ∧ Below w.heap.size w w' := by
  obtain ⟨kd, sb, lo, hi, mx, ik, ib, is, kp, dr, ad⟩ := c
  unfold bdB
  simp only
  have H1 : Hid (∀ W, Calls Tryz.prog 63 #[.agg #[.int .i64 0, .int .i64 254], .int .i64 mx] W fun e w' => e = .returned (.bool (inB 0 254 mx)) ∧ Below W.heap.size W w') := fun W => has_of _ _ _ W
  have H2 : Hid (∀ W, Calls Tryz.prog 63 #[.agg #[.int .i64 0, .int .i64 0], .int .i64 mx] W fun e w' => e = .returned (.bool (decide (mx = 0))) ∧ Below W.heap.size W w') := fun W => by
    have := has_of 0 0 mx W
    have e : inB 0 0 mx = decide (mx = 0) := by unfold inB; rw [← Bool.decide_and]; exact decide_eq_decide.2 ⟨fun h => by omega, fun h => by omega⟩
    rwa [e] at this
  cases sb
  · simp only [if_neg Bool.false_ne_true]
    by_cases q1 : lo = 0
    case neg =>
      have p1 : (lo == 0) = false := by simp [q1]
      rw [decide_eq_false q1]
      clear q1
      go_enter Tryz.func60, Tryz.ntmps60
      go_wp2
      all_goals
        go_ret
        exact ⟨rfl, by go_grown⟩
    subst q1
    by_cases q2 : hi = 0
    case neg =>
      have p2 : (hi == 0) = false := by simp [q2]
      rw [decide_eq_false q2]
      clear q2
      go_enter Tryz.func60, Tryz.ntmps60
      go_wp2
      all_goals
        go_ret
        exact ⟨rfl, by go_grown⟩
    subst q2
    rw [decide_eq_true rfl]
    by_cases q3 : kd = 19
    · subst q3
      rw [if_pos rfl]
      generalize inB 0 254 mx = r at *
      go_enter Tryz.func60, Tryz.ntmps60
      go_wp2_with fail
      refine (H1.out _).mono ?_
      rintro e w1 ⟨rfl, hb⟩
      have B1 : Hid (Below w.heap.size w w1) := bl_tr (by go_grown) hb
      clear hb
      go_wp2
      go_ret
      exact ⟨rfl, B1.out⟩
    · have p3 : (kd == 19) = false := by simp [q3]
      rw [if_neg q3]
      clear q3
      generalize decide (mx = 0) = r at *
      go_enter Tryz.func60, Tryz.ntmps60
      go_wp2_with fail
      refine (H2.out _).mono ?_
      rintro e w1 ⟨rfl, hb⟩
      have B1 : Hid (Below w.heap.size w w1) := bl_tr (by go_grown) hb
      clear hb
      go_wp2
      go_ret
      exact ⟨rfl, B1.out⟩
  · simp only [if_pos]
    have I1 : Hid (∀ W, Calls Tryz.prog 78 #[.int .u8 kd] W fun e w' => e = .returned (.bool (inB 2 9 kd)) ∧ w' = W) := fun W => isIntI_of kd W
    cases q0 : inB 2 9 kd
    case false =>
      rw [q0] at I1
      clear q0
      cases p1 : (lo == 0) <;> cases p2 : (hi == 0)
      all_goals
        go_enter Tryz.func60, Tryz.ntmps60
        go_wp2_with fail
        refine (I1.out _).mono ?_
        rintro e w1 ⟨rfl, rfl⟩
        go_wp2
        all_goals
          go_ret
          exact ⟨rfl, by go_grown⟩
    rw [q0] at I1
    have nk : ¬ kd = 19 := fun e => by subst e; exact absurd q0 (by decide)
    have p3 : (kd == 19) = false := by simp [nk]
    rw [if_neg nk]
    clear nk q0
    generalize decide (mx = 0) = r at *
    by_cases q1 : lo ≤ hi
    · rw [decide_eq_true q1]
      cases p1 : (lo == 0) <;> cases p2 : (hi == 0)
      all_goals
        go_enter Tryz.func60, Tryz.ntmps60
        go_wp2_with fail
        refine (I1.out _).mono ?_
        rintro e w1 ⟨rfl, rfl⟩
        go_wp2_with fail
        refine (H2.out _).mono ?_
        rintro e w1 ⟨rfl, hb⟩
        have B1 : Hid (Below w.heap.size w w1) := bl_tr (by go_grown) hb
        clear hb
        go_wp2
        go_ret
        exact ⟨rfl, B1.out⟩
    · rw [decide_eq_false q1]
      cases p1 : (lo == 0) <;> cases p2 : (hi == 0)
      all_goals
        go_enter Tryz.func60, Tryz.ntmps60
        go_wp2_with fail
        refine (I1.out _).mono ?_
        rintro e w1 ⟨rfl, rfl⟩
        go_wp2
        go_ret
        exact ⟨rfl, by go_grown⟩
end Go.Proofs.YtkickdmomompjaaGreat
