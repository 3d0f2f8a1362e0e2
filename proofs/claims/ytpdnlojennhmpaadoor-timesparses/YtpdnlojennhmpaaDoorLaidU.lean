/- What the listed tables of a row that begins awake hold: the months' days and the units; no statement of the seat is proved here. -/
import Derived.Test.YtpdnlojennhmpaaDoorAwk4
import Derived.ProofKit
import Derived.OpenShut
import Derived.LaidMore
import Derived.LaidSub
import Derived.Lay
import Derived.Lib.LaidTab
import Derived.Deep.Fields
namespace Go.Proofs.YtpdnlojennhmpaaDoor
set_option linter.unusedVariables false
open Go.RowKit Go.ChangeShapes Go.WideShapes Go.ChangeAt Go.Deep
section
variable {H : Type} {enc : TypeId × Value → H} {w : World} {base : Nat} {sp : Nat → Bool} {held : Bool} {fuel : Nat} {cs : List Value} {x : DataW H × List MemPlace}
theorem cell_str {l : List UInt8} (h : DataW.trod enc Tryd.prog w base sp held fuel 9 cs = some x) (hx : x.1 = .lit (.string l)) : cs = [.string ⟨l.toArray⟩] := by
  obtain ⟨s, rfl, rfl, _⟩ := DataW.trod_string Tryd.underlying9 h
  simp only [DataW.lit.injEq, Lit.string.injEq] at hx
  subst hx
  rfl
theorem cell_int {a : Int} (h : DataW.trod enc Tryd.prog w base sp held fuel 3 cs = some x) (hx : x.1 = .lit (.int .i64 a)) : cs = [.int .i64 a] := by
  obtain ⟨n, rfl, rfl, _⟩ := DataW.trod_int Tryd.underlying3 h
  simp only [DataW.lit.injEq, Lit.int.injEq, true_and] at hx
  subst hx
  rfl
theorem underU : Tryd.prog.underlying 43 = some (.struct (Tryd.prog.fieldsOf 43)) := by kernel_rfl
theorem oneU : oneCellFields Tryd.prog (Tryd.prog.fieldsOf 43) = true := by kernel_rfl
theorem typesU : ((Tryd.prog.fieldsOf 43).map (·.type)) = #[9, 3, 3] := by kernel_rfl
theorem cellsU : Tryd.prog.cellsOf 43 = 3 := by kernel_rfl
theorem fieldU (i : Nat) (t : TypeId) (h : #[9, 3, 3][i]? = some t) : ∃ f, (Tryd.prog.fieldsOf 43)[i]? = some f ∧ f.type = t := by
  rw [← typesU] at h
  simp only [Array.getElem?_map, Option.map_eq_some_iff] at h
  exact h
theorem sizeU : (Tryd.prog.fieldsOf 43).size = 3 := by kernel_rfl
theorem list3 {α : Type} {l : List α} (h : l.length = 3) : ∃ a b c, l = [a, b, c] := by
  rcases l with _ | ⟨a, _ | ⟨b, _ | ⟨c, _ | ⟨d, l⟩⟩⟩⟩
  · simp at h
  · simp at h
  · simp at h
  · exact ⟨a, b, c, rfl⟩
  · simp at h
set_option maxRecDepth 100000 in
theorem unit_cells {l : List UInt8} {a b : Int} (h : DataW.trod enc Tryd.prog w base sp held fuel 43 cs = some x) (hx : x.1 = .agg [.lit (.string l), .lit (.int .i64 a), .lit (.int .i64 b)]) : cs = [.string ⟨l.toArray⟩, .int .i64 a, .int .i64 b] := by
  obtain ⟨xs, n, _, rfl, hl, hlen, hf⟩ := DataW.trod_struct underU h
  rw [cellsU] at hl
  simp only [DataW.agg.injEq] at hx
  obtain ⟨y0, y1, y2, rfl⟩ := list3 (hlen.trans sizeU)
  obtain ⟨c0, c1, c2, rfl⟩ := list3 hl
  simp only [List.map_cons, List.map_nil, List.cons.injEq, and_true] at hx
  obtain ⟨e0, e1, e2⟩ := hx
  have key : ∀ (i : Nat) (t : TypeId) (c : Value) (y : DataW H × List MemPlace), #[9, 3, 3][i]? = some t → [c0, c1, c2][i]? = some c → [y0, y1, y2][i]? = some y → DataW.trod enc Tryd.prog w base sp held n t [c] = some y := by
    intro i t c y ht hc hy
    obtain ⟨f, h1, rfl⟩ := fieldU i t ht
    have := hf i f h1
    obtain ⟨o, k⟩ := hone_of oneU i f h1
    rw [o, k, hy] at this
    have e : ([c0, c1, c2].drop i).take 1 = [c] := by
      obtain ⟨hi, rfl⟩ := List.getElem?_eq_some_iff.1 hc
      rw [List.drop_eq_getElem_cons hi]; rfl
    rwa [e] at this
  have k0 := cell_str (key 0 _ c0 y0 rfl rfl rfl) e0
  have k1 := cell_int (key 1 _ c1 y1 rfl rfl rfl) e1
  have k2 := cell_int (key 2 _ c2 y2 rfl rfl rfl) e2
  simp only [List.cons.injEq, and_true] at k0 k1 k2
  rw [k0, k1, k2]
end
theorem gUnits : Tryd.prog.globalNamed "relay/times.units" = some 0 := by kernel_rfl
theorem tUnits : (Tryd.prog.globals[0]?).map (·.type) = some 44 := by kernel_rfl
theorem gMonth : Tryd.prog.globalNamed "relay/times.monthDays" = some 1 := by kernel_rfl
theorem tMonth : (Tryd.prog.globals[1]?).map (·.type) = some 95 := by kernel_rfl
theorem tab_of {W : World} (h : laidMet Tryd.prog [("relay/times.monthDays", Rows.laid_relay_times_monthDays)] W) : Tab W := by
  have hT := Lib.tabIs_of_head (k := .i64) (zs := [0, 31, 28, 31, 30, 31, 30, 31, 31, 30, 31, 30, 31]) (rest := []) gMonth tMonth Tryd.underlying95 Tryd.underlying3 (by kernel_rfl) (by kernel_rfl) h
  exact fun m hm => hT.cell gMonth m hm
set_option maxRecDepth 100000 in
theorem ut_of {W : World} (h : laidMet Tryd.prog [("relay/times.units", Rows.laid_relay_times_units)] W) : UT W := by
  obtain ⟨ps, ⟨g', t', cs, fuel, p, q, hg', ht', hvar, hd, _, _⟩, _⟩ := h
  obtain rfl := Option.some.inj (gUnits.symm.trans hg')
  obtain rfl := Option.some.inj (tUnits.symm.trans ht')
  obtain ⟨xs, m, _, hx, hl, hlen, hf⟩ := DataW.trod_array Tryd.underlying44 hd
  rw [cellsU] at hf
  have hx1 : xs.map (·.1) = [.agg [.lit (.string [68]), .lit (.int .i64 86400000000000), .lit (.int .i64 9223372036854775807)], .agg [.lit (.string [72]), .lit (.int .i64 3600000000000), .lit (.int .i64 24)], .agg [.lit (.string [77]), .lit (.int .i64 60000000000), .lit (.int .i64 60)], .agg [.lit (.string [83]), .lit (.int .i64 1000000000), .lit (.int .i64 60)], .agg [.lit (.string [77, 83]), .lit (.int .i64 1000000), .lit (.int .i64 1000)], .agg [.lit (.string [85, 83]), .lit (.int .i64 1000), .lit (.int .i64 1000)], .agg [.lit (.string [78, 83]), .lit (.int .i64 1), .lit (.int .i64 1000)]] := by
    have := congrArg Prod.fst hx
    simp only [Rows.laid_relay_times_units, DataW.agg.injEq] at this
    exact this.symm
  have at_ : ∀ (i : Nat) (l : List UInt8) (a b : Int), i < 7 → (xs.map (·.1))[i]? = some (.agg [.lit (.string l), .lit (.int .i64 a), .lit (.int .i64 b)]) → (cs.toList.drop (i * 3)).take 3 = [.string ⟨l.toArray⟩, .int .i64 a, .int .i64 b] := by
    intro i l a b hi hxi
    simp only [List.getElem?_map, Option.map_eq_some_iff] at hxi
    obtain ⟨y, hy, hy1⟩ := hxi
    exact unit_cells ((hf i hi).trans hy) hy1
  rw [hx1] at at_
  have cell : ∀ (i j : Nat) (l : List UInt8) (a b : Int) (v : Value), (cs.toList.drop (i * 3)).take 3 = [.string ⟨l.toArray⟩, .int .i64 a, .int .i64 b] → j < 3 → [Value.string ⟨l.toArray⟩, .int .i64 a, .int .i64 b][j]? = some v → W.cell? ⟨0, i * 3 + j, none⟩ = some v := by
    intro i j l a b v h hj hv
    have e := World.var?_cell gUnits hvar (i * 3 + j)
    rw [e]
    rw [← h, List.getElem?_take, if_pos hj, List.getElem?_drop] at hv
    simpa using hv
  have d0 := at_ 0 _ _ _ (by omega) rfl
  have d1 := at_ 1 _ _ _ (by omega) rfl
  have d2 := at_ 2 _ _ _ (by omega) rfl
  have d3 := at_ 3 _ _ _ (by omega) rfl
  exact ⟨cell 0 0 _ _ _ _ d0 (by omega) rfl, cell 1 0 _ _ _ _ d1 (by omega) rfl, cell 2 0 _ _ _ _ d2 (by omega) rfl, cell 3 0 _ _ _ _ d3 (by omega) rfl, cell 3 1 _ _ _ _ d3 (by omega) rfl, cell 3 2 _ _ _ _ d3 (by omega) rfl⟩
end Go.Proofs.YtpdnlojennhmpaaDoor
