/- What strings.Fields finds in the formal names of the standard functions; no statement of the seat is proved here. -/
import Derived.Test.YtkanhbokdjppoaaGreatDoorFldP
namespace Go.Proofs.YtkanhbokdjppoaaGreatDoor
set_option linter.unusedVariables false
open Go.RowKit
/-- The texts of a list by their numbers. -/
def nmsF (l : List ByteArray) (i : Nat) : ByteArray := l.getD i ⟨#[]⟩
theorem fldS1 : FldOk ⟨#[73, 78, 49, 32, 73, 78, 50]⟩ 2 (nmsF [⟨#[73, 78, 49]⟩, ⟨#[73, 78, 50]⟩]) where
  small := by decide
  ascii := by
    intro j b h
    have hj : j < 7 := by
      rcases Nat.lt_or_ge j 7 with g | g
      · exact g
      · rw [List.getElem?_eq_none (by simpa using g)] at h; cases h
    match j, hj with
    | 0, _ => cases h; decide
    | 1, _ => cases h; decide
    | 2, _ => cases h; decide
    | 3, _ => cases h; decide
    | 4, _ => cases h; decide
    | 5, _ => cases h; decide
    | 6, _ => cases h; decide
  len := by kernel_rfl
  at_ := by
    intro i hi
    match i, hi with
    | 0, _ => rfl
    | 1, _ => rfl
theorem fldS2 : FldOk ⟨#[73, 78]⟩ 1 (nmsF [⟨#[73, 78]⟩]) where
  small := by decide
  ascii := by
    intro j b h
    have hj : j < 2 := by
      rcases Nat.lt_or_ge j 2 with g | g
      · exact g
      · rw [List.getElem?_eq_none (by simpa using g)] at h; cases h
    match j, hj with
    | 0, _ => cases h; decide
    | 1, _ => cases h; decide
  len := by kernel_rfl
  at_ := by
    intro i hi
    match i, hi with
    | 0, _ => rfl
theorem fldS3 : FldOk ⟨#[77, 78, 32, 73, 78, 32, 77, 88]⟩ 3 (nmsF [⟨#[77, 78]⟩, ⟨#[73, 78]⟩, ⟨#[77, 88]⟩]) where
  small := by decide
  ascii := by
    intro j b h
    have hj : j < 8 := by
      rcases Nat.lt_or_ge j 8 with g | g
      · exact g
      · rw [List.getElem?_eq_none (by simpa using g)] at h; cases h
    match j, hj with
    | 0, _ => cases h; decide
    | 1, _ => cases h; decide
    | 2, _ => cases h; decide
    | 3, _ => cases h; decide
    | 4, _ => cases h; decide
    | 5, _ => cases h; decide
    | 6, _ => cases h; decide
    | 7, _ => cases h; decide
  len := by kernel_rfl
  at_ := by
    intro i hi
    match i, hi with
    | 0, _ => rfl
    | 1, _ => rfl
    | 2, _ => rfl
theorem fldS4 : FldOk ⟨#[71, 32, 73, 78, 48, 32, 73, 78, 49]⟩ 3 (nmsF [⟨#[71]⟩, ⟨#[73, 78, 48]⟩, ⟨#[73, 78, 49]⟩]) where
  small := by decide
  ascii := by
    intro j b h
    have hj : j < 9 := by
      rcases Nat.lt_or_ge j 9 with g | g
      · exact g
      · rw [List.getElem?_eq_none (by simpa using g)] at h; cases h
    match j, hj with
    | 0, _ => cases h; decide
    | 1, _ => cases h; decide
    | 2, _ => cases h; decide
    | 3, _ => cases h; decide
    | 4, _ => cases h; decide
    | 5, _ => cases h; decide
    | 6, _ => cases h; decide
    | 7, _ => cases h; decide
    | 8, _ => cases h; decide
  len := by kernel_rfl
  at_ := by
    intro i hi
    match i, hi with
    | 0, _ => rfl
    | 1, _ => rfl
    | 2, _ => rfl
theorem fldS5 : FldOk ⟨#[75, 32, 73, 78, 48]⟩ 2 (nmsF [⟨#[75]⟩, ⟨#[73, 78, 48]⟩]) where
  small := by decide
  ascii := by
    intro j b h
    have hj : j < 5 := by
      rcases Nat.lt_or_ge j 5 with g | g
      · exact g
      · rw [List.getElem?_eq_none (by simpa using g)] at h; cases h
    match j, hj with
    | 0, _ => cases h; decide
    | 1, _ => cases h; decide
    | 2, _ => cases h; decide
    | 3, _ => cases h; decide
    | 4, _ => cases h; decide
  len := by kernel_rfl
  at_ := by
    intro i hi
    match i, hi with
    | 0, _ => rfl
    | 1, _ => rfl
theorem fldS6 : FldOk ⟨#[73, 78, 32, 78]⟩ 2 (nmsF [⟨#[73, 78]⟩, ⟨#[78]⟩]) where
  small := by decide
  ascii := by
    intro j b h
    have hj : j < 4 := by
      rcases Nat.lt_or_ge j 4 with g | g
      · exact g
      · rw [List.getElem?_eq_none (by simpa using g)] at h; cases h
    match j, hj with
    | 0, _ => cases h; decide
    | 1, _ => cases h; decide
    | 2, _ => cases h; decide
    | 3, _ => cases h; decide
  len := by kernel_rfl
  at_ := by
    intro i hi
    match i, hi with
    | 0, _ => rfl
    | 1, _ => rfl
theorem fldS7 : FldOk ⟨#[73, 78, 32, 76]⟩ 2 (nmsF [⟨#[73, 78]⟩, ⟨#[76]⟩]) where
  small := by decide
  ascii := by
    intro j b h
    have hj : j < 4 := by
      rcases Nat.lt_or_ge j 4 with g | g
      · exact g
      · rw [List.getElem?_eq_none (by simpa using g)] at h; cases h
    match j, hj with
    | 0, _ => cases h; decide
    | 1, _ => cases h; decide
    | 2, _ => cases h; decide
    | 3, _ => cases h; decide
  len := by kernel_rfl
  at_ := by
    intro i hi
    match i, hi with
    | 0, _ => rfl
    | 1, _ => rfl
theorem fldS8 : FldOk ⟨#[73, 78, 32, 76, 32, 80]⟩ 3 (nmsF [⟨#[73, 78]⟩, ⟨#[76]⟩, ⟨#[80]⟩]) where
  small := by decide
  ascii := by
    intro j b h
    have hj : j < 6 := by
      rcases Nat.lt_or_ge j 6 with g | g
      · exact g
      · rw [List.getElem?_eq_none (by simpa using g)] at h; cases h
    match j, hj with
    | 0, _ => cases h; decide
    | 1, _ => cases h; decide
    | 2, _ => cases h; decide
    | 3, _ => cases h; decide
    | 4, _ => cases h; decide
    | 5, _ => cases h; decide
  len := by kernel_rfl
  at_ := by
    intro i hi
    match i, hi with
    | 0, _ => rfl
    | 1, _ => rfl
    | 2, _ => rfl
theorem fldS9 : FldOk ⟨#[73, 78, 49, 32, 73, 78, 50, 32, 80]⟩ 3 (nmsF [⟨#[73, 78, 49]⟩, ⟨#[73, 78, 50]⟩, ⟨#[80]⟩]) where
  small := by decide
  ascii := by
    intro j b h
    have hj : j < 9 := by
      rcases Nat.lt_or_ge j 9 with g | g
      · exact g
      · rw [List.getElem?_eq_none (by simpa using g)] at h; cases h
    match j, hj with
    | 0, _ => cases h; decide
    | 1, _ => cases h; decide
    | 2, _ => cases h; decide
    | 3, _ => cases h; decide
    | 4, _ => cases h; decide
    | 5, _ => cases h; decide
    | 6, _ => cases h; decide
    | 7, _ => cases h; decide
    | 8, _ => cases h; decide
  len := by kernel_rfl
  at_ := by
    intro i hi
    match i, hi with
    | 0, _ => rfl
    | 1, _ => rfl
    | 2, _ => rfl
theorem fldS10 : FldOk ⟨#[73, 78, 49, 32, 73, 78, 50, 32, 76, 32, 80]⟩ 4 (nmsF [⟨#[73, 78, 49]⟩, ⟨#[73, 78, 50]⟩, ⟨#[76]⟩, ⟨#[80]⟩]) where
  small := by decide
  ascii := by
    intro j b h
    have hj : j < 11 := by
      rcases Nat.lt_or_ge j 11 with g | g
      · exact g
      · rw [List.getElem?_eq_none (by simpa using g)] at h; cases h
    match j, hj with
    | 0, _ => cases h; decide
    | 1, _ => cases h; decide
    | 2, _ => cases h; decide
    | 3, _ => cases h; decide
    | 4, _ => cases h; decide
    | 5, _ => cases h; decide
    | 6, _ => cases h; decide
    | 7, _ => cases h; decide
    | 8, _ => cases h; decide
    | 9, _ => cases h; decide
    | 10, _ => cases h; decide
  len := by kernel_rfl
  at_ := by
    intro i hi
    match i, hi with
    | 0, _ => rfl
    | 1, _ => rfl
    | 2, _ => rfl
    | 3, _ => rfl
end Go.Proofs.YtkanhbokdjppoaaGreatDoor
