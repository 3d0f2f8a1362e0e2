/- What the table of the units holds, where it is listed; no statement of the seat is proved here. -/
import Derived.Test.YtpdnlojennhmpaaDoorLaidU
import Derived.Test.YtpdnlojennhmpaaDoorPaC
namespace Go.Proofs.YtpdnlojennhmpaaDoor
set_option linter.unusedVariables false
open Go.RowKit Go.ChangeShapes Go.WideShapes Go.ChangeAt Go.Deep
set_option maxRecDepth 100000 in
theorem ut7_of {W : World} (h : laidMet Tryd.prog [("relay/times.units", Rows.laid_relay_times_units)] W) : UT7 W := by
  obtain ⟨ps, ⟨g', t', cs, fuel, p, q, hg', ht', hvar, hd, _, _⟩, _⟩ := h
  obtain rfl := Option.some.inj (gUnits.symm.trans hg')
  obtain rfl := Option.some.inj (tUnits.symm.trans ht')
  obtain ⟨xs, m, _, hx, hl, hlen, hf⟩ := DataW.trod_array Tryd.underlying44 hd
  rw [cellsU] at hf
  have hx1 : xs.map (·.1) = [.agg [.lit (.string [68]), .lit (.int .i64 86400000000000), .lit (.int .i64 9223372036854775807)], .agg [.lit (.string [72]), .lit (.int .i64 3600000000000), .lit (.int .i64 24)], .agg [.lit (.string [77]), .lit (.int .i64 60000000000), .lit (.int .i64 60)], .agg [.lit (.string [83]), .lit (.int .i64 1000000000), .lit (.int .i64 60)], .agg [.lit (.string [77, 83]), .lit (.int .i64 1000000), .lit (.int .i64 1000)], .agg [.lit (.string [85, 83]), .lit (.int .i64 1000), .lit (.int .i64 1000)], .agg [.lit (.string [78, 83]), .lit (.int .i64 1), .lit (.int .i64 1000)]] := by
    have := congrArg Prod.fst hx
    simp only [Rows.laid_relay_times_units, DataW.agg.injEq] at this
    exact this.symm
  have at_ : ∀ (i : Nat) (l : List UInt8) (a b : Int), i < 7 → (xs.map (·.1))[i]? = some (.agg [.lit (.string l), .lit (.int .i64 a), .lit (.int .i64 b)]) → (cs.toList.drop (i * 3)).take 3 = [.string ⟨l.toArray⟩, .int .i64 a, .int .i64 b] := by
    intro i l a b hi hxi
    simp only [List.getElem?_map, Option.map_eq_some_iff] at hxi
    obtain ⟨y, hy, hy1⟩ := hxi
    exact unit_cells ((hf i hi).trans hy) hy1
  rw [hx1] at at_
  have cell : ∀ (i j : Nat) (l : List UInt8) (a b : Int) (v : Value), (cs.toList.drop (i * 3)).take 3 = [.string ⟨l.toArray⟩, .int .i64 a, .int .i64 b] → j < 3 → [Value.string ⟨l.toArray⟩, .int .i64 a, .int .i64 b][j]? = some v → W.cell? ⟨0, i * 3 + j, none⟩ = some v := by
    intro i j l a b v h hj hv
    have e := World.var?_cell gUnits hvar (i * 3 + j)
    rw [e]
    rw [← h, List.getElem?_take, if_pos hj, List.getElem?_drop] at hv
    simpa using hv
  intro i hi
  rcases (by omega : i = 0 ∨ i = 1 ∨ i = 2 ∨ i = 3 ∨ i = 4 ∨ i = 5 ∨ i = 6) with rfl | rfl | rfl | rfl | rfl | rfl | rfl
  · have d := at_ 0 _ _ _ (by omega) rfl
    exact ⟨cell 0 0 _ _ _ _ d (by omega) rfl, cell 0 1 _ _ _ _ d (by omega) rfl, cell 0 2 _ _ _ _ d (by omega) rfl⟩
  · have d := at_ 1 _ _ _ (by omega) rfl
    exact ⟨cell 1 0 _ _ _ _ d (by omega) rfl, cell 1 1 _ _ _ _ d (by omega) rfl, cell 1 2 _ _ _ _ d (by omega) rfl⟩
  · have d := at_ 2 _ _ _ (by omega) rfl
    exact ⟨cell 2 0 _ _ _ _ d (by omega) rfl, cell 2 1 _ _ _ _ d (by omega) rfl, cell 2 2 _ _ _ _ d (by omega) rfl⟩
  · have d := at_ 3 _ _ _ (by omega) rfl
    exact ⟨cell 3 0 _ _ _ _ d (by omega) rfl, cell 3 1 _ _ _ _ d (by omega) rfl, cell 3 2 _ _ _ _ d (by omega) rfl⟩
  · have d := at_ 4 _ _ _ (by omega) rfl
    exact ⟨cell 4 0 _ _ _ _ d (by omega) rfl, cell 4 1 _ _ _ _ d (by omega) rfl, cell 4 2 _ _ _ _ d (by omega) rfl⟩
  · have d := at_ 5 _ _ _ (by omega) rfl
    exact ⟨cell 5 0 _ _ _ _ d (by omega) rfl, cell 5 1 _ _ _ _ d (by omega) rfl, cell 5 2 _ _ _ _ d (by omega) rfl⟩
  · have d := at_ 6 _ _ _ (by omega) rfl
    exact ⟨cell 6 0 _ _ _ _ d (by omega) rfl, cell 6 1 _ _ _ _ d (by omega) rfl, cell 6 2 _ _ _ _ d (by omega) rfl⟩
theorem UT7.ut {w : World} (u : UT7 w) : UT w := ⟨(u 0 (by omega)).1, (u 1 (by omega)).1, (u 2 (by omega)).1, (u 3 (by omega)).1, (u 3 (by omega)).2.1, (u 3 (by omega)).2.2⟩
end Go.Proofs.YtpdnlojennhmpaaDoor
