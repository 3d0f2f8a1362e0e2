/- What the document's spanText answers; no statement of the seat is proved here. -/
import Derived.Test.YtpdnlojennhmpaaGreatDoorSpV
namespace Go.Proofs.YtpdnlojennhmpaaGreatDoor
set_option linter.unusedVariables false
open Go.RowKit
def qM (i : Nat) : ByteArray := ([⟨#[100]⟩, ⟨#[104]⟩, ⟨#[109]⟩, ⟨#[115]⟩, ⟨#[109, 115]⟩, ⟨#[117, 115]⟩, ⟨#[110, 115]⟩] : List ByteArray).getD i ⟨#[]⟩
def qB (i : Nat) : Int := ([9223372036854775807, 24, 60, 60, 1000, 1000, 1000] : List Int).getD i 0
theorem words_cell (w : World) (i : Nat) (h : i < 7) : (w.alloc (.cells #[.string ⟨#[68]⟩, .string ⟨#[72]⟩, .string ⟨#[77]⟩, .string ⟨#[83]⟩, .string ⟨#[77, 83]⟩, .string ⟨#[85, 83]⟩, .string ⟨#[78, 83]⟩] 9)).cell? ⟨w.heap.size, i, none⟩ = some (.string (pN i)) := by
  rw [World.cell?_alloc_new]
  rcases (by omega : i = 0 ∨ i = 1 ∨ i = 2 ∨ i = 3 ∨ i = 4 ∨ i = 5 ∨ i = 6) with rfl | rfl | rfl | rfl | rfl | rfl | rfl <;> rfl
theorem dcS_one (u : Nat) : dcS u 1 = decS u := by
  unfold dcS decS
  rw [show max 1 (Lib.nDigits u) = Lib.nDigits u by have := Lib.nDigits_pos u; omega, ← decLow_all]
/-- The text of so many nanoseconds. -/
def spS (N : Nat) : ByteArray := if N = 0 then ⟨#[48, 83]⟩ else spT N 7
theorem isEmpty_no {x : ByteArray} (h : ¬ x.size = 0) : x.toList.isEmpty = false := by
  have e : x.toList.length = x.size := by rw [ByteArray.toList_eq]; simp
  cases hx : x.toList with
  | nil => rw [hx] at e; simp at e; omega
  | cons a l => rfl
theorem isEmpty_yes {x : ByteArray} (h : x.size = 0) : x.toList.isEmpty = true := by
  have e : x.toList.length = x.size := by rw [ByteArray.toList_eq]; simp
  cases hx : x.toList with
  | nil => rfl
  | cons a l => rw [hx] at e; simp at e; omega
theorem u64_neg0 (b : Int) (N : Nat) (h : 9223372036854775808 ≤ b) (hb : b < 18446744073709551616) (hN : (18446744073709551616 - b).toNat = N) : IntKind.u64.wrap (-b) = (N : Int) := by
  rw [IntKind.wrap_u64]; omega
end Go.Proofs.YtpdnlojennhmpaaGreatDoor
