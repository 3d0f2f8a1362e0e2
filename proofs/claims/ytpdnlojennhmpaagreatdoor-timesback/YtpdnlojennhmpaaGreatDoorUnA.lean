/- The table of the units, for times.Print; the text of a span; no statement of the seat is proved here. -/
import Derived.Test.YtpdnlojennhmpaaGreatDoorPadV
import Derived.Test.YtpdnlojennhmpaaGreatDoorDecR
namespace Go.Proofs.YtpdnlojennhmpaaGreatDoor
set_option linter.unusedVariables false
open Go.RowKit
def pN (i : Nat) : ByteArray := ([⟨#[68]⟩, ⟨#[72]⟩, ⟨#[77]⟩, ⟨#[83]⟩, ⟨#[77, 83]⟩, ⟨#[85, 83]⟩, ⟨#[78, 83]⟩] : List ByteArray).getD i ⟨#[]⟩
def pL (i : Nat) : Nat := ([86400000000000, 3600000000000, 60000000000, 1000000000, 1000000, 1000, 1] : List Nat).getD i 1
/-- The table of the units lies as it was laid. -/
def PU (w : World) : Prop := ∀ i : Nat, i < 7 → w.cell? ⟨0, i * 3, none⟩ = some (.string (pN i)) ∧ w.cell? ⟨0, i * 3 + 1, none⟩ = some (.int .i64 (pL i : Int))
theorem PU.pos {w : World} (u : PU w) : 0 < w.heap.size := World.block_lt_of_cell? w ⟨0, 0, none⟩ (u 0 (by omega)).1
theorem PU.next {w w1 : World} (u : PU w) (h : Below w.heap.size w w1) : PU w1 := fun i hi => by
  have p := u.pos
  obtain ⟨a, b⟩ := u i hi
  exact ⟨(h.cell (p := ⟨0, i * 3, none⟩) p).trans a, (h.cell (p := ⟨0, i * 3 + 1, none⟩) p).trans b⟩
theorem pL_bd (i : Nat) : 1 ≤ pL i ∧ pL i ≤ 86400000000000 := by
  unfold pL
  by_cases h : i < 7
  · rcases (by omega : i = 0 ∨ i = 1 ∨ i = 2 ∨ i = 3 ∨ i = 4 ∨ i = 5 ∨ i = 6) with rfl | rfl | rfl | rfl | rfl | rfl | rfl <;> decide
  · rw [List.getD_eq_getElem?_getD, List.getElem?_eq_none (by show 7 ≤ i; omega)]; decide
theorem pN_bd (i : Nat) : (pN i).size ≤ 2 := by
  unfold pN
  by_cases h : i < 7
  · rcases (by omega : i = 0 ∨ i = 1 ∨ i = 2 ∨ i = 3 ∨ i = 4 ∨ i = 5 ∨ i = 6) with rfl | rfl | rfl | rfl | rfl | rfl | rfl <;> decide
  · rw [List.getD_eq_getElem?_getD, List.getElem?_eq_none (by show 7 ≤ i; omega)]; decide
/-- What is left of so many nanoseconds behind i units. -/
def spL (n : Nat) : Nat → Nat
  | 0 => n
  | i + 1 => spL n i % pL i
/-- The text of i units. -/
def spT (n : Nat) : Nat → ByteArray
  | 0 => ⟨#[]⟩
  | i + 1 => if 0 < spL n i / pL i then spT n i ++ (decS (spL n i / pL i) ++ pN i) else spT n i
theorem spL_le (n : Nat) : ∀ i, spL n i ≤ n
  | 0 => Nat.le_refl _
  | i + 1 => Nat.le_trans (Nat.mod_le _ _) (spL_le n i)
theorem spT_size (n : Nat) (h : n < 18446744073709551616) : ∀ i, (spT n i).size ≤ 22 * i
  | 0 => by show 0 ≤ _; omega
  | i + 1 => by
    have ih := spT_size n h i
    unfold spT
    split
    · rw [ByteArray.size_append, ByteArray.size_append]
      have a := decS_size (spL n i / pL i) (by have := Nat.div_le_self (spL n i) (pL i); have := spL_le n i; omega)
      have b := pN_bd i
      omega
    · omega
theorem decS_pos (u : Nat) : 1 ≤ (decS u).size := by
  unfold decS; show 1 ≤ (Lib.decDigits u).toArray.size; simp [Lib.decDigits_length]; exact Lib.nDigits_pos u
theorem spT_none (n : Nat) : ∀ i, (spT n i).size = 0 → spL n i = n
  | 0, _ => rfl
  | i + 1, h => by
    unfold spT at h
    split at h
    · rw [ByteArray.size_append, ByteArray.size_append] at h
      have := decS_pos (spL n i / pL i)
      omega
    · next c =>
      have e := spT_none n i h
      show spL n i % pL i = n
      rw [e] at c ⊢
      have p := (pL_bd i).1
      refine Nat.mod_eq_of_lt ?_
      have := Nat.lt_of_not_le (fun g => c (Nat.div_pos g (by omega)))
      exact this
theorem spT_zero : ∀ i, spL 0 i = 0 ∧ spT 0 i = ⟨#[]⟩
  | 0 => ⟨rfl, rfl⟩
  | i + 1 => by
    obtain ⟨a, b⟩ := spT_zero i
    refine ⟨?_, ?_⟩
    · show spL 0 i % pL i = 0; rw [a]; simp
    · show (if 0 < spL 0 i / pL i then _ else _) = _
      rw [a]; simp [b]
/-- The text is empty just of none. -/
theorem spT_empty (n : Nat) : (spT n 7).size = 0 ↔ n = 0 := by
  refine ⟨fun h => ?_, fun h => by subst h; rw [(spT_zero 7).2]; rfl⟩
  have e := spT_none n 7 h
  rw [← e]
  show spL n 6 % pL 6 = 0
  rw [show pL 6 = 1 from rfl]; exact Nat.mod_one _
end Go.Proofs.YtpdnlojennhmpaaGreatDoor
