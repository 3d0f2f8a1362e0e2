/- How an argument of the type api.Type reads, field by field, with the bounds of its array; no statement of the seat is proved here. -/
import Derived.Test.YtgjalilggokhhabRows
import Derived.WalkKit
import Derived.WalkSpells
import Derived.WalkLawsBesides
import Derived.ProofKit
import Derived.OpenShut
import Derived.Lib.SmallJoins
import Derived.Deep.Fields
namespace Go.Proofs.Ytgjalilggokhhab
set_option linter.unusedVariables false
open Go.RowKit Go.ChangeShapes Go.WideShapes Go.ChangeAt Go.Joins Go.Deep
abbrev T (tk : Int) (sub : Bool) (lo hi mx : Int) (arr : Bool) (fr to : Int) (bl : ByteArray) : Value := .agg #[.int .u8 tk, .bool sub, .int .i64 lo, .int .i64 hi, .int .i64 mx, .bool arr, .int .i64 fr, .int .i64 to, .string bl]
theorem array9 {α : Type} {cs : Array α} (h : cs.size = 9) : ∃ c0 c1 c2 c3 c4 c5 c6 c7 c8, cs = #[c0, c1, c2, c3, c4, c5, c6, c7, c8] := by
  obtain ⟨l⟩ := cs
  match l, h with
  | [c0, c1, c2, c3, c4, c5, c6, c7, c8], _ => exact ⟨c0, c1, c2, c3, c4, c5, c6, c7, c8, rfl⟩
theorem field9 {H : Type} {enc : TypeId × Value → H} {P : Program} {w : World} {base : Nat} {spare : Nat → Bool} {held : Bool} {t : TypeId} {fs : Array Field} {fuel : Nat} {cs : List Value} {x : DataW H × List MemPlace}
    (ht : P.underlying t = some (.struct fs)) (hone : oneCellFields P fs = true) (h : DataW.trod enc P w base spare held fuel t cs = some x) (i : Nat) (f : Field) (hf : fs[i]? = some f) (v : Value) (hc : cs[i]? = some v) :
    ∃ n y, DataW.trod enc P w base spare held n f.type [v] = some y := by
  obtain ⟨xs, n, _, rfl, hl, hlen, hx⟩ := DataW.trod_struct ht h
  obtain ⟨o, k⟩ := hone_of hone i f hf
  have := hx i f hf
  rw [o, k] at this
  have e : (cs.drop i).take 1 = [v] := by
    obtain ⟨hi, rfl⟩ := List.getElem?_eq_some_iff.1 hc
    rw [List.drop_eq_getElem_cons hi]; rfl
  rw [e] at this
  have hlt : i < xs.length := by rw [hlen]; exact (Array.getElem?_eq_some_iff.1 hf).1
  exact ⟨n, xs[i], by rw [this]; exact List.getElem?_eq_getElem hlt⟩
theorem oneT : oneCellFields Try.prog (Try.prog.fieldsOf 24) = true := by kernel_rfl
theorem cellsT : Try.prog.cellsOf 24 = 9 := by kernel_rfl
theorem underT : Try.prog.underlying 24 = some (.struct (Try.prog.fieldsOf 24)) := by kernel_rfl
theorem typesT : ((Try.prog.fieldsOf 24).map (·.type)) = #[22, 4, 3, 3, 3, 4, 3, 3, 9] := by kernel_rfl
theorem fieldT (i : Nat) (t : TypeId) (h : #[22, 4, 3, 3, 3, 4, 3, 3, 9][i]? = some t) : ∃ f, (Try.prog.fieldsOf 24)[i]? = some f ∧ f.type = t := by
  rw [← typesT] at h
  simp only [Array.getElem?_map, Option.map_eq_some_iff] at h
  exact h
theorem open_T {H : Type} {enc : TypeId × Value → H} {w : World} {base b0 : Nat} {spare : Nat → Bool} {held : Bool} {r : Reach} {v : Value} {d : DataW H} {p : List MemPlace}
    (hv : Value.okWide Try.prog w r b0 24 v) (h : DataW.Trod enc Try.prog w base spare held 24 v d p) :
    ∃ tk sub lo hi mx arr fr to bl, v = T tk sub lo hi mx arr fr to bl ∧ (-9223372036854775808 ≤ fr ∧ fr < 9223372036854775808) ∧ (-9223372036854775808 ≤ to ∧ to < 9223372036854775808) := by
  obtain ⟨cs, rfl, hsz⟩ := okWide_struct underT hv
  obtain ⟨c0, c1, c2, c3, c4, c5, c6, c7, c8, rfl⟩ := array9 (hsz.trans cellsT)
  obtain ⟨fuel, hf⟩ := h
  have key : ∀ (i : Nat) (t : TypeId) (c : Value), #[22, 4, 3, 3, 3, 4, 3, 3, 9][i]? = some t → [c0, c1, c2, c3, c4, c5, c6, c7, c8][i]? = some c → ∃ n y, DataW.trod enc Try.prog w base spare held n t [c] = some y := by
    intro i t c ht hc
    obtain ⟨f, h1, rfl⟩ := fieldT i t ht
    exact field9 underT oneT hf i f h1 c (by simpa [Value.cells] using hc)
  obtain ⟨n0, y0, k0⟩ := key 0 _ _ rfl rfl
  obtain ⟨n1, y1, k1⟩ := key 1 _ _ rfl rfl
  obtain ⟨n2, y2, k2⟩ := key 2 _ _ rfl rfl
  obtain ⟨n3, y3, k3⟩ := key 3 _ _ rfl rfl
  obtain ⟨n4, y4, k4⟩ := key 4 _ _ rfl rfl
  obtain ⟨n5, y5, k5⟩ := key 5 _ _ rfl rfl
  obtain ⟨n6, y6, k6⟩ := key 6 _ _ rfl rfl
  obtain ⟨n7, y7, k7⟩ := key 7 _ _ rfl rfl
  obtain ⟨n8, y8, k8⟩ := key 8 _ _ rfl rfl
  obtain ⟨x0, e0, _, _⟩ := DataW.trod_int Try.underlying22 k0
  obtain ⟨x1, e1, _⟩ := DataW.trod_bool Try.underlying4 k1
  obtain ⟨x2, e2, _, _⟩ := DataW.trod_int Try.underlying3 k2
  obtain ⟨x3, e3, _, _⟩ := DataW.trod_int Try.underlying3 k3
  obtain ⟨x4, e4, _, _⟩ := DataW.trod_int Try.underlying3 k4
  obtain ⟨x5, e5, _⟩ := DataW.trod_bool Try.underlying4 k5
  obtain ⟨x6, e6, _, w2⟩ := DataW.trod_int Try.underlying3 k6
  obtain ⟨x7, e7, _, w3⟩ := DataW.trod_int Try.underlying3 k7
  obtain ⟨x8, e8, _, _⟩ := DataW.trod_string Try.underlying9 k8
  simp at e0 e1 e2 e3 e4 e5 e6 e7 e8
  subst e0 e1 e2 e3 e4 e5 e6 e7 e8
  have b2 := bounds_i64 w2
  have b3 := bounds_i64 w3
  exact ⟨_, _, _, _, _, _, _, _, _, rfl, by omega, by omega⟩
end Go.Proofs.Ytgjalilggokhhab
