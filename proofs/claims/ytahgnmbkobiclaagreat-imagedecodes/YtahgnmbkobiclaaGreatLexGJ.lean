/- The document's 'address' where no address begins; no statement of the seat is proved here. -/
import Derived.Test.YtahgnmbkobiclaaGreatLexFJ
namespace Go.Proofs.YtahgnmbkobiclaaGreat
set_option linter.unusedVariables false
open Go.RowKit
set_option maxHeartbeats 2000000 in
theorem addressR_no (s p : ByteArray) (w : World) (hz : 3 < s.size) (Q : Hid (s.extract 0 3 = p)) (P : Hid (capS p = p)) (ps : p.size = 3) (pm : p.size ≤ maxLen) (h : areaB (p[1].toNat : Int) = false ∨ bitN (p[2].toNat : Int) = 0) :
    Calls Tryz.prog 112 #[.string s, .int .i64 0] w fun e w' => e = .returned (.int .i64 (-1)) ∧ Below w.heap.size w w' := by
  have H : Hid (areaB (p[1].toNat : Int) = false ∨ bitN (p[2].toNat : Int) = 0) := h
  clear h
  cases e1 : areaB (p[1].toNat : Int)
  · have n1 : ¬ ((p[1].toNat : Int) = 73) := by intro q; rw [q] at e1; cases e1
    have n2 : ¬ ((p[1].toNat : Int) = 81) := by intro q; rw [q] at e1; cases e1
    have n3 : ¬ ((p[1].toNat : Int) = 77) := by intro q; rw [q] at e1; cases e1
    clear e1 H
    go_enter Tryz.func112, Tryz.ntmps112
    go_wp2_with (go_at_call 111; rw [Q.out]; refine (Upper_of p _ pm).mono ?_; rintro e w1 ⟨rfl, hB⟩; rw [P.out])
    go_returns
    exact ⟨rfl, by assumption⟩
  · have e2 : bitN (p[2].toNat : Int) = 0 := by
      rcases H.out with q | q
      · rw [e1] at q
        cases q
      · exact q
    have n1 : ¬ ((p[2].toNat : Int) = 88) := by intro q; rw [q] at e2; revert e2; decide
    have n2 : ¬ ((p[2].toNat : Int) = 66) := by intro q; rw [q] at e2; revert e2; decide
    have n3 : ¬ ((p[2].toNat : Int) = 87) := by intro q; rw [q] at e2; revert e2; decide
    have n4 : ¬ ((p[2].toNat : Int) = 68) := by intro q; rw [q] at e2; revert e2; decide
    have n5 : ¬ ((p[2].toNat : Int) = 76) := by intro q; rw [q] at e2; revert e2; decide
    clear e1 e2 H
    go_enter Tryz.func112, Tryz.ntmps112
    go_wp2_with (go_at_call 111; rw [Q.out]; refine (Upper_of p _ pm).mono ?_; rintro e w1 ⟨rfl, hB⟩; rw [P.out])
    all_goals first | (go_returns; exact ⟨rfl, by assumption⟩) | (go_light; exfalso; rename_i h _; simp [n1, n2, n3, n4, n5] at h; done) | (go_light; exfalso; rename_i h; simp [n1, n2, n3, n4, n5] at h; done)
end Go.Proofs.YtahgnmbkobiclaaGreat
