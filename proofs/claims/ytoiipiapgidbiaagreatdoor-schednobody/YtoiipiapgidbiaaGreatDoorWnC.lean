/- The law's questions of a panel and a pair that no call made; no statement of the seat is proved here. -/
import Derived.Test.YtoiipiapgidbiaaGreatDoorWnB
namespace Go.Proofs.YtoiipiapgidbiaaGreatDoor
set_option linter.unusedVariables false
set_option linter.unusedSimpArgs false
open Go.RowKit
/-- A value in its box. -/
def VBx (W : World) (h : Nat) (k b : Int) (s : ByteArray) : Prop := W.cell? ⟨h, 0, none⟩ = some (.int .u8 k) ∧ W.cell? ⟨h, 1, none⟩ = some (.int .u64 b) ∧ W.cell? ⟨h, 2, none⟩ = some (.string s)
theorem VBx.next {W w' : World} {h : Nat} {k b : Int} {s : ByteArray} (x : VBx W h k b s) (hb : Below W.heap.size W w') : VBx w' h k b s := by
  obtain ⟨a0, a1, a2⟩ := x
  have l := block_lt_of_cell a0
  exact ⟨(hb.cell (p := ⟨h, 0, none⟩) l).trans a0, (hb.cell (p := ⟨h, 1, none⟩) l).trans a1, (hb.cell (p := ⟨h, 2, none⟩) l).trans a2⟩
/-- A report that tells nothing, in its box. -/
def RBx (W : World) (h : Nat) : Prop := ∀ (i : Nat) (v : Value), zr[i]? = some v → W.cell? ⟨h, i, none⟩ = some v
theorem RBx.next {W w' : World} {h : Nat} (x : RBx W h) (hb : Below W.heap.size W w') : RBx w' h :=
  fun i v hi => (hb.cell (p := ⟨h, i, none⟩) (block_lt_of_cell (x i v hi))).trans (x i v hi)
theorem RBx.new (W : World) (u : TypeId) : RBx (W.alloc (.cells zr u)) W.heap.size := by
  intro i v hi
  have h7 : i < 7 := by
    rcases Nat.lt_or_ge i 7 with h | h
    · exact h
    · rw [Array.getElem?_eq_none (by simpa using h)] at hi; cases hi
  rcases (show i = 0 ∨ i = 1 ∨ i = 2 ∨ i = 3 ∨ i = 4 ∨ i = 5 ∨ i = 6 by omega) with rfl | rfl | rfl | rfl | rfl | rfl | rfl
  all_goals
    simp at hi
    subst hi
    simp
theorem two_bel {w w1 w2 : World} {c1 c2 : Array Value} {u v : TypeId} (h : Below w.heap.size w w1) (hb : Below ((w1.alloc (.cells c1 u)).alloc (.cells c2 v)).heap.size ((w1.alloc (.cells c1 u)).alloc (.cells c2 v)) w2) : Below w.heap.size w w2 := by
  have := h.size
  exact ((h.alloc h.size _).alloc (by simp; omega) _).trans (hb.mono (by simp; omega))
theorem two_bel' {w w1 : World} {c1 c2 : Array Value} {u v : TypeId} (h : Below w.heap.size w w1) : Below w.heap.size w ((w1.alloc (.cells c1 u)).alloc (.cells c2 v)) := by
  have := h.size
  exact (h.alloc h.size _).alloc (by simp; omega) _
theorem al_bel (w : World) (o : Obj) : Below w.heap.size w (w.alloc o) := (Below.refl _ _).alloc (Nat.le_refl _) _
end Go.Proofs.YtoiipiapgidbiaaGreatDoor
