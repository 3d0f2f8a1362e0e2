/- How a list of ticks, and one of truth values, reads as an argument; no statement of the seat is proved here. -/
import Derived.Test.YtaaecgjbnickaabDoorBlkN
import Derived.ProofKit
import Derived.OpenShut
import Derived.SizedLaws
import Derived.Lib.SmallJoins
import Derived.Deep.Slices
import Derived.LaidMore
import Derived.LaidSub
import Derived.Lay
import Derived.Lib.LaidTab
import Derived.MakeChecks
namespace Go.Proofs.YtaaecgjbnickaabDoor
set_option linter.unusedVariables false
open Go.RowKit Go.ChangeShapes Go.WideShapes Go.ChangeAt Go.Joins Go.Deep
section
variable {H : Type} {enc : TypeId × Value → H} {w : World} {base b0 : Nat} {spare : Nat → Bool} {held : Bool} {r : Reach} {v : Value} {d : DataW H} {p : List MemPlace}
set_option maxRecDepth 100000 in
/-- One tick, of its two cells. -/
theorem tick_cells {n : Nat} {cs : List Value} {x : DataW H × List MemPlace} (h : DataW.trod enc Tryd.prog w base spare held n 37 cs = some x) : ∃ i p, cs = [.bool i, .int .i64 p] := by
  obtain ⟨y0, y1, m, _, hl, h0, h1⟩ := trod_struct2 Tryd.underlying37 h
  rw [show Tryd.prog.cellsOf 37 = 2 by kernel_rfl] at hl
  match cs, hl with
  | [c0, c1], _ =>
    have e0 : DataW.trod enc Tryd.prog w base spare held m 4 [c0] = some y0 := h0
    have e1 : DataW.trod enc Tryd.prog w base spare held m 3 [c1] = some y1 := h1
    obtain ⟨b, hb, _⟩ := DataW.trod_bool Tryd.underlying4 e0
    obtain ⟨q, hq, _⟩ := DataW.trod_int Tryd.underlying3 e1
    simp at hb hq
    exact ⟨b, q, by rw [hb, hq]⟩
instance : Inhabited Tk := ⟨⟨false, 0⟩⟩
theorem open_ticks (hv : Value.okWide Tryd.prog w r b0 34 v) (h : DataW.Trod enc Tryd.prog w base spare held 34 v d p) :
    ∃ ad n cap f, v = .slice ad n cap ∧ (ad = none → n = 0 ∧ cap = 0) ∧ TkAt w ad n f ∧ (n = 0 ∨ ∃ el sp, d = .slice el sp ∧ el.length = n) := by
  obtain ⟨ad, n, cap, rfl⟩ := okWide_slice Tryd.underlying34 hv
  obtain ⟨fuel, hf⟩ := h
  rcases open_slice Tryd.underlying34 hf with ⟨e, _⟩ | ⟨a, len, c, m, k, D, Pl, e, hb, hl, hm, hmm, hx, hh⟩
  · simp [Value.cells] at e
    obtain ⟨rfl, rfl, rfl⟩ := e
    exact ⟨none, 0, 0, fun _ => ⟨false, 0⟩, rfl, fun _ => ⟨rfl, rfl⟩, fun a e => by simp at e, .inl rfl⟩
  · simp [Value.cells] at e
    obtain ⟨rfl, rfl, rfl⟩ := e
    rw [show Tryd.prog.cellsOf 37 = 2 by kernel_rfl] at hh
    have hlm : n ≤ m := by rw [hmm]; split <;> omega
    obtain ⟨f, hf⟩ := choose_lt (α := Tk) (n := n) (p := fun i t => w.cell? (a.add (i * 2)) = some (.bool t.i) ∧ w.cell? (a.add (i * 2 + 1)) = some (.int .i64 t.p)) (fun i hi => by
      obtain ⟨cs, h1, h2⟩ := hh i (by omega)
      obtain ⟨b, q, rfl⟩ := tick_cells h2
      obtain ⟨_, _, g⟩ := World.cells?_some h1
      have g0 := g 0 (by omega)
      have g1 := g 1 (by omega)
      rw [add_off] at g0 g1
      exact ⟨⟨b, q⟩, by simpa using g0, by simpa using g1⟩)
    refine ⟨some a, n, cap, f, rfl, fun e => (by simp at e), ?_, .inr ⟨_, _, (Prod.mk.inj hx).1, by simp⟩⟩
    intro a' e j u hu
    simp at e
    subst e
    have hj : j < (tkL n f).length := by
      rcases Nat.lt_or_ge j (tkL n f).length with g | g
      · exact g
      · rw [List.getElem?_eq_none g] at hu; cases hu
    rw [tkL_len] at hj
    obtain ⟨q, s, e, hs⟩ : ∃ q s, j = q * 2 + s ∧ s < 2 := ⟨j / 2, j % 2, by omega, by omega⟩
    subst e
    obtain ⟨x0, x1⟩ := hf q (by omega)
    obtain ⟨y0, y1⟩ := tkL_at n f q (by omega)
    rcases (show s = 0 ∨ s = 1 by omega) with rfl | rfl
    · rw [Nat.add_zero, y0] at hu; cases hu; rw [Nat.add_zero]; exact x0
    · rw [y1] at hu; cases hu; exact x1
end
theorem asc_data {H : Type} : (Rows.laid_strings_asciiSpace : DataW H) = Lib.tabData .u8 Lib.asciiSpaceTab := by kernel_rfl
set_option maxRecDepth 100000 in
theorem asc_of {W : World} (h : laidMetH Tryd.prog [("unicode.White_Space", Rows.laid_unicode_White_Space), ("strings.asciiSpace", Rows.laid_strings_asciiSpace)] W) : Asc W := by
  rw [MakeChecks.laidMetH_plain _ _ _ (by kernel_rfl)] at h
  obtain ⟨ps, ⟨_, _, _, _, _, _, _, _, _, _, hrest, _⟩, _⟩ := h
  obtain ⟨g', t', cs, fuel, p, q, hg', ht', hvar, hd, _, _⟩ := hrest
  obtain rfl := Option.some.inj ((show Tryd.prog.globalNamed "strings.asciiSpace" = some 0 by kernel_rfl).symm.trans hg')
  obtain rfl := Option.some.inj ((show (Tryd.prog.globals[0]?).map (·.type) = some 73 by kernel_rfl).symm.trans ht')
  rw [asc_data] at hd
  unfold Asc Lib.TabIs
  rw [hvar, ← Lib.cells_of_tab Tryd.underlying73 Tryd.underlying5 (by kernel_rfl) (by kernel_rfl) hd]
end Go.Proofs.YtaaecgjbnickaabDoor
