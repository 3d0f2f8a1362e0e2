/- What value.May and the document's May answer, for every value; no statement of the seat is proved here. -/
import Derived.Test.YtlaamkfpdompjaaGreatDoorMayR
namespace Go.Proofs.YtlaamkfpdompjaaGreatDoor
set_option linter.unusedVariables false
open Go.RowKit
/-- May a value be? -/
def may3 (k b : Int) (s : ByteArray) : Bool :=
  if k = 19 then decide (b = 0 ∧ s.size ≤ 254) else decide (s.toList = []) && mayW k b
abbrev V (k b : Int) (s : ByteArray) : Value := .agg #[.int .u8 k, .int .u64 b, .string s]
theorem m3s (b : Int) (s : ByteArray) (h : b = 0) : decide ((s.size : Int) ≤ 254) = may3 19 b s := by
  subst h; rw [Bool.eq_iff_iff]; simp [may3]; omega
theorem m3n (b : Int) (s : ByteArray) (h : ¬ b = 0) : false = may3 19 b s := by simp [may3, h]
theorem m3e (k b : Int) (s : ByteArray) (c : ¬ k = 19) (h : s.toList = []) : mayW k b = may3 k b s := by simp [may3, h, c]
theorem m3f (k b : Int) (s : ByteArray) (c : ¬ k = 19) (h : ¬ s.toList = []) : false = may3 k b s := by simp [may3, h, c]
set_option maxHeartbeats 400000 in
theorem May_of (k b : Int) (s : ByteArray) (w : World) (h0 : 0 ≤ b) (h1 : b < 18446744073709551616) (hk : 0 ≤ k ∧ k < 256) (hs : s.size ≤ maxLen) :
    Calls Tryz.prog 7 #[V k b s] w fun e w' => e = .returned (.bool (may3 k b s)) ∧ Below w.heap.size w w' := by
  unfold maxLen at hs
  by_cases c : k = 19
  · subst c
    go_enter Tryz.func7, Tryz.ntmps7
    go_wp2
    all_goals
      go_ret
      refine ⟨ret_bool ?_, (Below.refl _ _).alloc (Nat.le_refl _) _⟩
      first | exact m3s b s ‹_› | exact m3n b s ‹_›
  · go_enter Tryz.func7, Tryz.ntmps7
    go_wp2_with (go_at_call 22; refine (mayBits_of _ _ _ h0 h1 hk).mono ?_; rintro e w' ⟨rfl, rfl⟩)
    all_goals
      go_ret
      refine ⟨ret_bool ?_, (Below.refl _ _).alloc (Nat.le_refl _) _⟩
      first | exact m3e k b s c ‹_› | exact m3f k b s c ‹_›
set_option maxHeartbeats 400000 in
theorem MayR_of (k b : Int) (s : ByteArray) (w : World) (h0 : 0 ≤ b) (h1 : b < 18446744073709551616) (hk : 0 ≤ k ∧ k < 256) (hs : s.size ≤ maxLen) :
    Calls Tryz.prog 15 #[V k b s] w fun e w' => e = .returned (.bool (may3 k b s)) ∧ Below w.heap.size w w' := by
  unfold maxLen at hs
  by_cases c : k = 19
  · subst c
    go_enter Tryz.func15, Tryz.ntmps15
    go_wp2
    all_goals
      go_ret
      refine ⟨ret_bool ?_, (Below.refl _ _).alloc (Nat.le_refl _) _⟩
      first | exact m3s b s ‹_› | exact m3n b s ‹_›
  · go_enter Tryz.func15, Tryz.ntmps15
    go_wp2_with (go_at_call 35; refine (may_of _ _ _ h0 h1 hk).mono ?_; rintro e w' ⟨rfl, rfl⟩)
    all_goals
      go_ret
      refine ⟨ret_bool ?_, (Below.refl _ _).alloc (Nat.le_refl _) _⟩
      first | exact m3e k b s c ‹_› | exact m3f k b s c ‹_›
end Go.Proofs.YtlaamkfpdompjaaGreatDoor
