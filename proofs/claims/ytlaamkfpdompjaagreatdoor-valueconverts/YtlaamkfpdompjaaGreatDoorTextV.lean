/- What the value package's Text answers; no statement of the seat is proved here. -/
import Derived.Test.YtlaamkfpdompjaaGreatDoorFitted
namespace Go.Proofs.YtlaamkfpdompjaaGreatDoor
set_option linter.unusedVariables false
open Go.RowKit
/-- The STRING of a text, or the fault. -/
def textR (s : ByteArray) : Value := if s.size ≤ 254 then .tuple #[V 19 0 s, .int .i64 0] else .tuple #[V 0 0 E0, .int .i64 5]
set_option maxHeartbeats 400000 in
theorem Text_of (s : ByteArray) (w : World) (hs : s.size ≤ maxLen) : Calls Tryz.prog 33 #[.string s] w fun e w' => e = .returned (textR s) ∧ Below w.heap.size w w' := by
  unfold maxLen at hs
  unfold textR
  by_cases c : s.size ≤ 254
  · rw [if_pos c]
    go_enter Tryz.func33, Tryz.ntmps33
    go_wp2
    exact bodyPost_ret (v := .tuple #[V 19 0 s, .int .i64 0]) (by simp [results, Tryz.results33, go_sem]) rfl ⟨rfl, (Below.refl _ _).alloc (Nat.le_refl _) _⟩
  · rw [if_neg c]
    go_enter Tryz.func33, Tryz.ntmps33
    go_wp2
    exact bodyPost_ret (v := .tuple #[V 0 0 E0, .int .i64 5]) (by simp [results, Tryz.results33, go_sem]) rfl ⟨rfl, (Below.refl _ _).alloc (Nat.le_refl _) _⟩
set_option maxHeartbeats 400000 in
theorem TextR_of (s : ByteArray) (w : World) (hs : s.size ≤ maxLen) : Calls Tryz.prog 46 #[.string s] w fun e w' => e = .returned (textR s) ∧ Below w.heap.size w w' := by
  unfold maxLen at hs
  unfold textR
  by_cases c : s.size ≤ 254
  · rw [if_pos c]
    go_enter Tryz.func46, Tryz.ntmps46
    go_wp2
    exact bodyPost_ret (v := .tuple #[V 19 0 s, .int .i64 0]) (by simp [results, Tryz.results46, go_sem]) rfl ⟨rfl, (Below.refl _ _).alloc (Nat.le_refl _) _⟩
  · rw [if_neg c]
    go_enter Tryz.func46, Tryz.ntmps46
    go_wp2
    exact bodyPost_ret (v := .tuple #[V 0 0 E0, .int .i64 5]) (by simp [results, Tryz.results46, go_sem]) rfl ⟨rfl, (Below.refl _ _).alloc (Nat.le_refl _) _⟩
end Go.Proofs.YtlaamkfpdompjaaGreatDoor
