/- The listed table of the kinds' words holds them; no statement of the seat is proved here. -/
import Derived.Test.YtkanhbokdjppoaaGreatDoorWdA
import Derived.ProofKit
import Derived.OpenShut
import Derived.LaidMore
import Derived.LaidSub
import Derived.Lay
import Derived.Lib.LaidTab
import Derived.Deep.Fields
namespace Go.Proofs.YtkanhbokdjppoaaGreatDoor
set_option linter.unusedVariables false
open Go.RowKit Go.ChangeShapes Go.WideShapes Go.ChangeAt Go.Deep
theorem gKw : Tryz.prog.globalNamed "relay/value.words" = some 0 := by kernel_rfl
theorem tKw : (Tryz.prog.globals[0]?).map (·.type) = some 82 := by kernel_rfl
theorem cellsS : Tryz.prog.cellsOf 9 = 1 := by kernel_rfl
section
variable {H : Type} {enc : TypeId × Value → H} {w : World} {base : Nat} {sp : Nat → Bool} {held : Bool} {fuel : Nat} {cs : List Value} {x : DataW H × List MemPlace}
theorem cell_str {l : List UInt8} (h : DataW.trod enc Tryz.prog w base sp held fuel 9 cs = some x) (hx : x.1 = .lit (.string l)) : cs = [.string ⟨l.toArray⟩] := by
  obtain ⟨s, rfl, rfl, _⟩ := DataW.trod_string Tryz.underlying9 h
  simp only [DataW.lit.injEq, Lit.string.injEq] at hx
  subst hx
  rfl
end
set_option maxRecDepth 100000 in
theorem kw_of {W : World} (h : laidMet Tryz.prog [("relay/value.words", Rows.laid_relay_value_words)] W) : KW W := by
  obtain ⟨ps, ⟨g', t', cs, fuel, p, q, hg', ht', hvar, hd, _, _⟩, _⟩ := h
  obtain rfl := Option.some.inj (gKw.symm.trans hg')
  obtain rfl := Option.some.inj (tKw.symm.trans ht')
  obtain ⟨xs, m, _, hx, hl, hlen, hf⟩ := DataW.trod_array Tryz.underlying82 hd
  rw [cellsS] at hf
  have hx1 : xs.map (·.1) = kwL.map (fun b => .lit (.string b.data.toList)) := by
    have := congrArg Prod.fst hx
    simp only [Rows.laid_relay_value_words, DataW.agg.injEq] at this
    exact this.symm
  have cl : ∀ i, i < 20 → W.cell? ⟨0, i, none⟩ = some (.string (kw i)) := by
    intro i hi
    have hxi : (xs.map (·.1))[i]? = some (.lit (.string (kw i).data.toList)) := by
      rw [hx1, List.getElem?_map]
      have hli : i < kwL.length := hi
      have : kwL[i]? = some (kw i) := by
        unfold kw
        rw [List.getD_eq_getElem?_getD, List.getElem?_eq_getElem hli]; rfl
      rw [this]; rfl
    simp only [List.getElem?_map, Option.map_eq_some_iff] at hxi
    obtain ⟨y, hy, hy1⟩ := hxi
    have d := cell_str ((hf i hi).trans hy) hy1
    have e := World.var?_cell gKw hvar i
    rw [e]
    have : ((cs.toList.drop (i * 1)).take 1)[0]? = some (.string (kw i)) := by rw [d]; rfl
    rw [List.getElem?_take, if_pos (by omega), List.getElem?_drop] at this
    simpa using this
  exact ⟨block_lt_of_cell (cl 0 (by omega)), cl⟩
end Go.Proofs.YtkanhbokdjppoaaGreatDoor
