/- Texts in a row, copied; no statement of the seat is proved here. -/
import Derived.Test.YtemoebhjcjfmjaaTrC
import Derived.OwnWalk
import Derived.Laws.CopyOwn
import Derived.Deep.WholeRow
namespace Go.Proofs.Ytemoebhjcjfmjaa
set_option linter.unusedVariables false
open Go.RowKit
def tcL (l : List ByteArray) : List Value := l.map Value.string
theorem infoT : ∃ i, Try.prog.info? 9 = some i ∧ i.zero = some (.string ⟨#[]⟩) ∧ i.size = 1 ∧ i.bytes = 16 := by
  obtain ⟨i, hi, hz⟩ := Option.map_eq_some_iff.1 (show (Try.prog.info? 9).map (fun i => (i.zero, i.size, i.bytes)) = some (some (.string ⟨#[]⟩), 1, 16) by kernel_rfl)
  simp only [Prod.mk.injEq] at hz
  exact ⟨i, hi, hz.1, hz.2.1, hz.2.2⟩
theorem ownt_none (w : World) : (w.alloc (.cells #[] 9)).ownsRow w.heap.size 9 1 (.slice (some ⟨w.heap.size, 0, none⟩) 0 0) 0 [] :=
  ⟨rfl, .inr ⟨w.heap.size, 0, #[], rfl, Nat.le_refl _, heap_alloc_last w _, Nat.le_refl _, Nat.zero_le _, rfl, rfl⟩⟩
theorem ownB' {w : World} {base : Nat} {e : TypeId} {size : Nat} {x : Value} {n : Nat} {xs : List Value} (h : w.ownsRow base e size x n xs) {g : Nat} (hg : x.ownBlock = some g) : base ≤ g := by
  obtain ⟨_, h2⟩ := h
  rcases h2 with ⟨rfl, _⟩ | ⟨g2, cap, cur, rfl, hb, _⟩
  · simp [Value.ownBlock] at hg
  · simp [Value.ownBlock] at hg; omega
theorem own_nm {w : World} {base : Nat} {x : Value} {l : List ByteArray} (h : w.ownsRow base 9 1 x l.length (tcL l)) : ∃ y c, x = .slice y l.length c ∧ NmAt w y l := by
  obtain ⟨h1, h2⟩ := h
  rcases h2 with ⟨e, e'⟩ | ⟨g, cap, cur, e, hb, hg, hc, hm, hs, ht⟩
  · have : l = [] := List.length_eq_zero_iff.1 e'
    subst this
    exact ⟨none, 0, e, fun _ => rfl, fun a q => by cases q⟩
  · refine ⟨_, _, e, fun q => (by cases q), fun a q i s hs' => ?_⟩
    cases q
    have il : i < l.length := (List.getElem?_eq_some_iff.1 hs').1
    have a : (tcL l)[i]? = some (.string s) := by unfold tcL; rw [List.getElem?_map, hs']; rfl
    rw [← ht, List.getElem?_take_of_lt (by omega)] at a
    have e : (⟨g, 0, none⟩ : Addr).add i = ⟨g, i, none⟩ := by unfold Addr.add; split <;> simp_all
    rw [e]
    simp only [World.cell?, hg]
    simpa using a
end Go.Proofs.Ytemoebhjcjfmjaa
