/- What the parts of times.Parse answer at the text 1s: cut, CutPrefix, the digits; no statement of the seat is proved here. -/
import Derived.Test.YtpdnlojennhmpaaDoorRows
import Derived.WalkKit
import Derived.WalkSpells
import Derived.WalkLawsBesides
import Derived.Handy
import Derived.Deep.Light
import Derived.Deep.QuietTactic
import Derived.BigQuiet
import Derived.Below
namespace Go.Proofs.YtpdnlojennhmpaaDoor
set_option linter.unusedVariables false
open Go.RowKit
theorem bdN {B : Nat} {a w : World} (h : Below B a w) (n : Nat) : Below B a (w.drewN n) := ⟨h.os, h.tape, h.output, h.size, h.block⟩
abbrev s1s : ByteArray := ⟨#[49, 115]⟩
abbrev s1 : ByteArray := ⟨#[49]⟩
abbrev ss : ByteArray := ⟨#[115]⟩
abbrev s0 : ByteArray := ⟨#[]⟩
abbrev sS : ByteArray := ⟨#[83]⟩
set_option maxHeartbeats 1000000 in
theorem cut_a (w : World) : Calls Tryd.prog 24 #[.string s1s, .func (.func 25) #[] #[]] w fun e w' => e = .returned (.tuple #[.string s1, .string ss]) ∧ Below w.heap.size w w' := by
  go_enter Tryd.func24, Tryd.ntmps24
  go_wp2
  go_rounds 3
  go_quiet (fail)
  go_wp2
  go_ret2
  exact ⟨rfl, bdN (Below.refl _ _) _⟩
set_option maxHeartbeats 1000000 in
theorem cut_b (w : World) : Calls Tryd.prog 24 #[.string ss, .func (.func 40) #[] #[]] w fun e w' => e = .returned (.tuple #[.string ss, .string s0]) ∧ Below w.heap.size w w' := by
  go_enter Tryd.func24, Tryd.ntmps24
  go_wp2
  go_rounds 3
  go_quiet (fail)
  go_wp2
  go_ret2
  exact ⟨rfl, bdN (Below.refl _ _) _⟩
set_option maxHeartbeats 1000000 in
theorem pre_a (w : World) : Calls Tryd.prog 14 #[.string s1s, .string ⟨#[45]⟩] w fun e w' => e = .returned (.tuple #[.string s1s, .bool false]) ∧ w' = w := by
  have e1 : ((s1s.extract 0 1).toList == [45]) = false := by kernel_rfl
  go_enter Tryd.func14, Tryd.ntmps14
  go_wp2
  go_ret2
  exact ⟨rfl, rfl⟩
set_option maxHeartbeats 1000000 in
theorem pre_b (w : World) : Calls Tryd.prog 14 #[.string ss, .string ⟨#[46]⟩] w fun e w' => e = .returned (.tuple #[.string ss, .bool false]) ∧ w' = w := by
  have e1 : ((ss.extract 0 1).toList == [46]) = false := by kernel_rfl
  go_enter Tryd.func14, Tryd.ntmps14
  go_wp2
  go_ret2
  exact ⟨rfl, rfl⟩
set_option maxHeartbeats 1000000 in
theorem num_a (w : World) : Calls Tryd.prog 47 #[.string s1] w fun e w' => e = .returned (.tuple #[.int .i64 1, .bool true]) ∧ w' = w := by
  go_enter Tryd.func47, Tryd.ntmps47
  go_wp2
  go_rounds 3
  go_ret2
  exact ⟨rfl, rfl⟩
set_option maxHeartbeats 1000000 in
theorem frac_a (w : World) : Calls Tryd.prog 26 #[.string s0, .int .i64 1000000000] w fun e w' => e = .returned (.tuple #[.int .i64 0, .bool true]) ∧ w' = w := by
  go_enter Tryd.func26, Tryd.ntmps26
  go_wp2
  go_rounds 3
  go_ret2
  exact ⟨rfl, rfl⟩
end Go.Proofs.YtpdnlojennhmpaaDoor
