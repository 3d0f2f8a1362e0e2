/- How the arguments of the statements read: values and types, field by field; no statement of the seat is proved here. -/
import Derived.Test.YtlaamkfpdompjaaGreatDoorMayV
import Derived.ProofKit
import Derived.OpenShut
import Derived.Lib.SmallJoins
namespace Go.Proofs.YtlaamkfpdompjaaGreatDoor
set_option linter.unusedVariables false
open Go.RowKit Go.ChangeShapes Go.WideShapes Go.ChangeAt Go.Joins
theorem cellsV : Tryz.prog.cellsOf 25 = 3 := by kernel_rfl
set_option maxRecDepth 100000 in
theorem open_V {H : Type} {enc : TypeId × Value → H} {w : World} {base b0 : Nat} {spare : Nat → Bool} {held : Bool} {r : Reach} {v : Value} {d : DataW H} {p : List MemPlace}
    (hv : Value.okWide Tryz.prog w r b0 25 v) (h : DataW.Trod enc Tryz.prog w base spare held 25 v d p) :
    ∃ k b s, v = V k b s ∧ (0 ≤ k ∧ k < 256) ∧ 0 ≤ b ∧ b < 18446744073709551616 ∧ s.size ≤ maxLen := by
  obtain ⟨c0, c1, c2, y0, y1, y2, m, rfl, rfl, rfl, hy0, hy1, hy2⟩ := open_agg3 Tryz.underlying25 (by kernel_rfl) cellsV hv h
  obtain ⟨k, e0, _, wk⟩ := DataW.trod_int Tryz.underlying22 hy0
  obtain ⟨b, e1, _, wb⟩ := DataW.trod_int Tryz.underlying23 hy1
  obtain ⟨s, e2, _, ws⟩ := DataW.trod_string Tryz.underlying9 hy2
  simp at e0 e1 e2
  subst e0 e1 e2
  have bk := bounds_u8 wk
  have bb := bounds_u64 wb
  exact ⟨k, b, s, rfl, by omega, by omega, by omega, ws⟩
end Go.Proofs.YtlaamkfpdompjaaGreatDoor
