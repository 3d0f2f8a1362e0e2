/- strings.CutSuffix at one byte; no statement of the seat is proved here. -/
import Derived.Test.YtkanhbokdjppoaaGreatDoorBase
import Derived.Below
namespace Go.Proofs.YtkanhbokdjppoaaGreatDoor
set_option linter.unusedVariables false
open Go.RowKit
/-- Does a text end with _? -/
def lastU (a : ByteArray) : Bool := decide (0 < a.size) && ((a.extract (a.size - 1) a.size).toList == [95])
set_option maxHeartbeats 1000000 in
theorem HasSuffix_of (a : ByteArray) (w : World) (hs : a.size ≤ maxLen) :
    Calls Tryz.prog 131 #[.string a, .string ⟨#[95]⟩] w fun e w' => e = .returned (.bool (lastU a)) ∧ w' = w := by
  unfold maxLen at hs
  by_cases h : 0 < a.size
  · have h1 : (1 : Int) ≤ a.size := by omega
    go_enter Tryz.func131, Tryz.ntmps131
    go_wp2
    go_ret
    exact ⟨ret_bool (by simp [lastU, h]), rfl⟩
  · have h1 : ¬ (1 : Int) ≤ a.size := by omega
    go_enter Tryz.func131, Tryz.ntmps131
    go_wp2
    go_ret
    exact ⟨ret_bool (by simp [lastU, h]), rfl⟩
/-- What strings.CutSuffix answers of a text and _. -/
def cutU (a : ByteArray) : Value := if lastU a then .tuple #[.string (a.extract 0 (a.size - 1)), .bool true] else .tuple #[.string a, .bool false]
set_option maxHeartbeats 1000000 in
theorem CutSuffixL_of (a : ByteArray) (w : World) (hs : a.size ≤ maxLen) :
    Calls Tryz.prog 89 #[.string a, .string ⟨#[95]⟩] w fun e w' => e = .returned (cutU a) ∧ w' = w := by
  have H : Hid _ := fun w => HasSuffix_of a w hs
  unfold maxLen at hs
  cases e : lastU a
  · have c : cutU a = .tuple #[.string a, .bool false] := by simp [cutU, e]
    rw [c]
    go_enter Tryz.func89, Tryz.ntmps89
    go_wp2_with (first | (go_at_call 131; refine (H.out _).mono ?_; rintro x w1 ⟨rfl, rfl⟩; rw [e]))
    go_ret2
    exact ⟨rfl, rfl⟩
  · have h1 : 0 < a.size := by have := e; simp [lastU] at this; exact this.1
    have h2 : (1 : Int) ≤ a.size := by omega
    have c : cutU a = .tuple #[.string (a.extract 0 (a.size - 1)), .bool true] := by simp [cutU, e]
    rw [c]
    go_enter Tryz.func89, Tryz.ntmps89
    go_wp2_with (first | (go_at_call 131; refine (H.out _).mono ?_; rintro x w1 ⟨rfl, rfl⟩; rw [e]))
    first | (go_ret2; exact ⟨rfl, rfl⟩) | (trace_state; fail)
set_option maxHeartbeats 1000000 in
theorem CutSuffix_of (a : ByteArray) (w : World) (hs : a.size ≤ maxLen) :
    Calls Tryz.prog 40 #[.string a, .string ⟨#[95]⟩] w fun e w' => e = .returned (cutU a) ∧ w' = w := by
  have H : Hid _ := fun w => CutSuffixL_of a w hs
  obtain ⟨x, p, e⟩ : ∃ x p, cutU a = .tuple #[.string x, .bool p] := by
    unfold cutU; split
    · exact ⟨_, _, rfl⟩
    · exact ⟨_, _, rfl⟩
  rw [e] at H ⊢
  go_enter Tryz.func40, Tryz.ntmps40
  go_wp2_with (first | (go_at_call 89; refine (H.out _).mono ?_; rintro x w1 ⟨rfl, rfl⟩))
  go_ret2
  exact ⟨rfl, rfl⟩
end Go.Proofs.YtkanhbokdjppoaaGreatDoor
