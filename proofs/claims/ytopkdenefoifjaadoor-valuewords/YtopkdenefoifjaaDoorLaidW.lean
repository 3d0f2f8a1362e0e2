/- What the listed tables of ValueWords hold; no statement of the seat is proved here. -/
import Derived.Test.YtopkdenefoifjaaDoorPrR
import Derived.Test.YtopkdenefoifjaaDoorWdB
import Derived.ProofKit
import Derived.OpenShut
import Derived.LaidMore
import Derived.LaidSub
import Derived.Lay
import Derived.Lib.LaidTab
import Derived.Deep.Fields
namespace Go.Proofs.YtopkdenefoifjaaDoor
set_option linter.unusedVariables false
open Go.RowKit Go.ChangeShapes Go.WideShapes Go.ChangeAt Go.Deep
theorem gPow : Tryd.prog.globalNamed "internal/strconv.uint64pow10" = some 2 := by kernel_rfl
theorem tPow : (Tryd.prog.globals[2]?).map (·.type) = some 92 := by kernel_rfl
theorem pow_of {W : World} (h : laidMet Tryd.prog [("internal/strconv.uint64pow10", Rows.laid_internal_strconv_uint64pow10)] W) : Pow W :=
  Lib.tabIs_of_head (k := .u64) (zs := Lib.pow10Tab) (rest := []) gPow tPow Tryd.underlying92 Tryd.underlying23 (by kernel_rfl) (by kernel_rfl) h
theorem gBru : Tryd.prog.globalNamed "math/bits.deBruijn64tab" = some 8 := by kernel_rfl
theorem tBru : (Tryd.prog.globals[8]?).map (·.type) = some 109 := by kernel_rfl
theorem tz4_of {W : World} (h : laidMet Tryd.prog [("math/bits.deBruijn64tab", Rows.laid_math_bits_deBruijn64tab)] W) : Tz4 W := by
  have hT := Lib.tabIs_of_head (k := .u8) (zs := [0, 1, 56, 2, 57, 49, 28, 3, 61, 58, 42, 50, 38, 29, 17, 4, 62, 47, 59, 36, 45, 43, 51, 22, 53, 39, 33, 30, 24, 18, 12, 5, 63, 55, 48, 27, 60, 41, 37, 16, 46, 35, 44, 21, 52, 32, 23, 11, 54, 26, 40, 15, 34, 20, 31, 10, 25, 14, 19, 9, 13, 8, 7, 6]) (rest := []) gBru tBru Tryd.underlying109 Tryd.underlying5 (by kernel_rfl) (by kernel_rfl) h
  exact hT.cell gBru 15 (by decide)
theorem gKw : Tryd.prog.globalNamed "relay/value.words" = some 0 := by kernel_rfl
theorem tKw : (Tryd.prog.globals[0]?).map (·.type) = some 31 := by kernel_rfl
theorem cellsS : Tryd.prog.cellsOf 9 = 1 := by kernel_rfl
section
variable {H : Type} {enc : TypeId × Value → H} {w : World} {base : Nat} {sp : Nat → Bool} {held : Bool} {fuel : Nat} {cs : List Value} {x : DataW H × List MemPlace}
theorem cell_str {l : List UInt8} (h : DataW.trod enc Tryd.prog w base sp held fuel 9 cs = some x) (hx : x.1 = .lit (.string l)) : cs = [.string ⟨l.toArray⟩] := by
  obtain ⟨s, rfl, rfl, _⟩ := DataW.trod_string Tryd.underlying9 h
  simp only [DataW.lit.injEq, Lit.string.injEq] at hx
  subst hx
  rfl
end
set_option maxRecDepth 100000 in
theorem kw_of {W : World} (h : laidMet Tryd.prog [("relay/value.words", Rows.laid_relay_value_words)] W) : KW W := by
  obtain ⟨ps, ⟨g', t', cs, fuel, p, q, hg', ht', hvar, hd, _, _⟩, _⟩ := h
  obtain rfl := Option.some.inj (gKw.symm.trans hg')
  obtain rfl := Option.some.inj (tKw.symm.trans ht')
  obtain ⟨xs, m, _, hx, hl, hlen, hf⟩ := DataW.trod_array Tryd.underlying31 hd
  rw [cellsS] at hf
  have hx1 : xs.map (·.1) = kwL.map (fun b => .lit (.string b.data.toList)) := by
    have := congrArg Prod.fst hx
    simp only [Rows.laid_relay_value_words, DataW.agg.injEq] at this
    exact this.symm
  have cl : ∀ i, i < 20 → W.cell? ⟨0, i, none⟩ = some (.string (kw i)) := by
    intro i hi
    have hxi : (xs.map (·.1))[i]? = some (.lit (.string (kw i).data.toList)) := by
      rw [hx1, List.getElem?_map]
      have hli : i < kwL.length := hi
      have : kwL[i]? = some (kw i) := by
        unfold kw
        rw [List.getD_eq_getElem?_getD, List.getElem?_eq_getElem hli]; rfl
      rw [this]; rfl
    simp only [List.getElem?_map, Option.map_eq_some_iff] at hxi
    obtain ⟨y, hy, hy1⟩ := hxi
    have d := cell_str ((hf i hi).trans hy) hy1
    have e := World.var?_cell gKw hvar i
    rw [e]
    have : ((cs.toList.drop (i * 1)).take 1)[0]? = some (.string (kw i)) := by rw [d]; rfl
    rw [List.getElem?_take, if_pos (by omega), List.getElem?_drop] at this
    simpa using this
  obtain ⟨c, e, fr, hc, _⟩ := Go.Sort.cells_of_cell? (cl 0 (by omega))
  refine ⟨?_, cl⟩
  by_cases g : 0 < W.heap.size
  · exact g
  · have : W.heap[0]? = none := Array.getElem?_eq_none (by omega)
    rw [this] at hc; cases hc
end Go.Proofs.YtopkdenefoifjaaDoor
