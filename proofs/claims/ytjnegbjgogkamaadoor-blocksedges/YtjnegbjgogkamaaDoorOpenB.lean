/- How a list of truth values reads as an argument; no statement of the seat is proved here. -/
import Derived.Test.YtjnegbjgogkamaaDoorOpenK
import Derived.Test.YtjnegbjgogkamaaDoorBlkQ
namespace Go.Proofs.YtjnegbjgogkamaaDoor
set_option linter.unusedVariables false
open Go.RowKit Go.ChangeShapes Go.WideShapes Go.ChangeAt Go.Joins Go.Deep
set_option maxRecDepth 100000 in
theorem open_bools {H : Type} {enc : TypeId × Value → H} {w : World} {base b0 : Nat} {spare : Nat → Bool} {held : Bool} {r : Reach} {v : Value} {d : DataW H} {p : List MemPlace}
    (hv : Value.okWide Tryd.prog w r b0 45 v) (h : DataW.Trod enc Tryd.prog w base spare held 45 v d p) :
    ∃ ad n cap f, v = .slice ad n cap ∧ (ad = none → n = 0 ∧ cap = 0) ∧ BoAt w ad n f ∧ (n = 0 ∨ ∃ el sp, d = .slice el sp ∧ el.length = n) := by
  obtain ⟨ad, n, cap, rfl⟩ := okWide_slice Tryd.underlying45 hv
  obtain ⟨fuel, hf⟩ := h
  rcases open_slice1 Tryd.underlying45 (show Tryd.prog.cellsOf 4 = 1 by kernel_rfl) hf with ⟨e, _⟩ | ⟨a, len, c, m, k, Vf, D, Pl, e, hb, hl, hm, hmm, hx, hh⟩
  · simp [Value.cells] at e
    obtain ⟨rfl, rfl, rfl⟩ := e
    exact ⟨none, 0, 0, fun _ => false, rfl, fun _ => ⟨rfl, rfl⟩, fun a e => by simp at e, .inl rfl⟩
  · simp [Value.cells] at e
    obtain ⟨rfl, rfl, rfl⟩ := e
    have hlm : n ≤ m := by rw [hmm]; split <;> omega
    obtain ⟨f, hf⟩ := choose_lt (α := Bool) (n := n) (p := fun i t => w.cell? (a.add i) = some (.bool t)) (fun i hi => by
      obtain ⟨h1, h2⟩ := hh i (by omega)
      obtain ⟨b, hb, _⟩ := DataW.trod_bool Tryd.underlying4 h2
      simp at hb
      exact ⟨b, by rw [h1, hb]⟩)
    refine ⟨some a, n, cap, f, rfl, fun e => (by simp at e), ?_, .inr ⟨_, _, (Prod.mk.inj hx).1, by simp⟩⟩
    intro a' e i hi
    simp at e
    subst e
    exact hf i hi
end Go.Proofs.YtjnegbjgogkamaaDoor
