/- Rows of kinds in memory; no statement of the seat is proved here. -/
import Derived.Test.YtkanhbokdjppoaaGreatDoorBlkI0
import Derived.Test.YtkanhbokdjppoaaGreatDoorNums
namespace Go.Proofs.YtkanhbokdjppoaaGreatDoor
set_option linter.unusedVariables false
open Go.RowKit
/-- Kinds one behind the other in memory. -/
def KsAt (w : World) (a : Addr) (n : Nat) (κ : Nat → Int) : Prop := ∀ i, i < n → w.cell? (a.add i) = some (.int .u8 (κ i))
theorem KsAt.below {w wr : World} {a : Addr} {n : Nat} {κ : Nat → Int} (h : KsAt w a n κ) (hb : Below w.heap.size w wr) : KsAt wr a n κ := by
  intro i hi
  have h0 := h i hi
  rw [hb.cell (block_lt_of_cell h0)]; exact h0
theorem KsAt.other {w wr : World} {a : Addr} {n : Nat} {κ : Nat → Int} (h : KsAt w a n κ) (hb : wr.heap[a.block]? = w.heap[a.block]?) : KsAt wr a n κ := by
  intro i hi
  have h0 := h i hi
  have e : (a.add i).block = a.block := by unfold Addr.add; split <;> rfl
  rw [← h0]; exact World.cell?_of_block (w := w) (a := a.add i) (by rw [e]; exact hb)
/-- The cells of a row of kinds. -/
def ksL (n : Nat) (κ : Nat → Int) : List Value := (List.range n).map fun i => .int .u8 (κ i)
theorem ksL_succ (n : Nat) (κ : Nat → Int) : ksL (n + 1) κ = ksL n κ ++ [.int .u8 (κ n)] := by unfold ksL; rw [List.range_succ, List.map_append]; rfl
theorem ksL_at (n : Nat) (κ : Nat → Int) (i : Nat) (h : i < n) : (ksL n κ)[i]? = some (.int .u8 (κ i)) := by unfold ksL; simp [h]
theorem ownB {w : World} {base : Nat} {e : TypeId} {size : Nat} {x : Value} {n : Nat} {xs : List Value} (h : w.ownsRow base e size x n xs) {g : Nat} (hg : x.ownBlock = some g) : base ≤ g := by
  obtain ⟨_, h2⟩ := h
  rcases h2 with ⟨rfl, _⟩ | ⟨g', cap, cur, rfl, hb, _⟩
  · simp [Value.ownBlock] at hg
  · simp [Value.ownBlock] at hg; omega
theorem own_kinds {w : World} {base n : Nat} {x : Value} {κ : Nat → Int} {e : TypeId} (h : w.ownsRow base e 1 x n (ksL n κ)) (hn : 0 < n) : ∃ g cap, x = .slice (some ⟨g, 0, none⟩) n cap ∧ base ≤ g ∧ KsAt w ⟨g, 0, none⟩ n κ ∧ n ≤ cap := by
  obtain ⟨h1, h2⟩ := h
  rcases h2 with ⟨_, e⟩ | ⟨g, cap, cur, e, hb, hg, hc, hm, hs, ht⟩
  · omega
  · refine ⟨g, cap, e, hb, fun i hi => ?_, by omega⟩
    have a := ksL_at n κ i hi
    rw [← ht, List.getElem?_take_of_lt (by omega)] at a
    have e : (⟨g, 0, none⟩ : Addr).add i = ⟨g, i, none⟩ := by unfold Addr.add; split <;> simp_all
    rw [e]
    simp only [World.cell?, hg]
    simpa using a
end Go.Proofs.YtkanhbokdjppoaaGreatDoor
