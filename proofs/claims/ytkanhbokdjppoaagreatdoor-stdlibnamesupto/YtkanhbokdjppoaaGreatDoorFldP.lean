/- What strings.Fields finds in a text; no statement of the seat is proved here. -/
import Derived.Test.YtkanhbokdjppoaaGreatDoorFl
import Derived.Test.YtkanhbokdjppoaaGreatDoorNums
import Derived.Shelf.Unicode.PredsPay
import Derived.Laws.CopyOwn
import Derived.Deep.WholeRow
namespace Go.Proofs.YtkanhbokdjppoaaGreatDoor
set_option linter.unusedVariables false
open Go.RowKit
/-- The table that strings.Fields reads lies as it is laid. -/
def Asc (w : World) : Prop := Lib.TabIs Tryz.prog w "strings.asciiSpace" .u8 Lib.asciiSpaceTab
theorem Asc.below {w w' : World} (h : Asc w) (hb : Below w.heap.size w w') : Asc w' := TabIs_below (g := 1) (by kernel_rfl) h hb
/-- Texts lie in memory. -/
def NmAt (w : World) (g n : Nat) (nms : Nat → ByteArray) : Prop := ∀ i, i < n → w.cell? ⟨g, i, none⟩ = some (.string (nms i))
theorem NmAt.below {w w' : World} {g n : Nat} {nms : Nat → ByteArray} (h : NmAt w g n nms) (hb : Below w.heap.size w w') : NmAt w' g n nms := by
  intro i hi
  have z : g < w.heap.size := block_lt_of_cell (a := ⟨g, i, none⟩) (h i hi)
  rw [hb.cell (p := ⟨g, i, none⟩) z]; exact h i hi
/-- What strings.Fields finds in a text. -/
structure FldOk (names : ByteArray) (n : Nat) (nms : Nat → ByteArray) : Prop where
  small : names.size < 4294967281
  ascii : ∀ (j : Nat) b, names.data.toList[j]? = some b → b.toNat < 128
  len : (Lib.fields names.data.toList).length = n
  at_ : ∀ i, i < n → ((Lib.fields names.data.toList).map fun l => Value.string ⟨l.toArray⟩)[i]? = some (.string (nms i))
theorem Fields_of (names : ByteArray) (n : Nat) (nms : Nat → ByteArray) (w : World) (h : FldOk names n nms) (ht : Asc w) :
    Calls Tryz.prog 49 #[.string names] w fun e w' => e = .returned (.slice (some ⟨w.heap.size, 0, none⟩) n n) ∧ NmAt w' w.heap.size n nms ∧ w' = w.alloc (.cells ((Lib.fields names.data.toList).map fun l => Value.string ⟨l.toArray⟩).toArray 9) ∧ Below w.heap.size w w' :=
  (Tryz.strings_Fields_laid names w h.small h.ascii ht).mono (by
    rintro e w' ⟨rfl, rfl⟩
    refine ⟨by rw [h.len], fun i hi => ?_, rfl, (Below.refl _ _).alloc (Nat.le_refl _) _⟩
    have g := heap_alloc_last w (.cells ((Lib.fields names.data.toList).map fun l => Value.string ⟨l.toArray⟩).toArray 9)
    simp only [World.cell?, g]
    simpa using h.at_ i hi)
end Go.Proofs.YtkanhbokdjppoaaGreatDoor
