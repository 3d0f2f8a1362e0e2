/- What Start answers for each block but F_TRIG; no statement of the seat is proved here. -/
import Derived.Test.YtjnegbjgogkamaaDoorBlkK
import Derived.Test.YtjnegbjgogkamaaDoorBlkX
namespace Go.Proofs.YtjnegbjgogkamaaDoor
set_option linter.unusedVariables false
open Go.RowKit
/-- A list's element as a name. -/
def nmsOf (l : List ByteArray) (i : Nat) : ByteArray := l.getD i ⟨#[]⟩
theorem fld1 : FldOk ⟨#[83, 49, 32, 82, 32, 81, 49]⟩ 3 (nmsOf [⟨#[83, 49]⟩, ⟨#[82]⟩, ⟨#[81, 49]⟩]) where
  small := by decide
  ascii := fun j b h => (show ∀ b ∈ (⟨#[83, 49, 32, 82, 32, 81, 49]⟩ : ByteArray).data.toList, b.toNat < 128 by decide) b (List.mem_of_getElem? h)
  len := by decide
  at_ := fun i hi => by
    match i, hi with
    | 0, _ => rfl
    | 1, _ => rfl
    | 2, _ => rfl
theorem Start_1 (w : World) (ht : Asc w) : Calls Tryd.prog 16 #[.int .i64 1] w fun e w' => ∃ g c, e = .returned (.slice (some ⟨g, 0, none⟩) 3 c) ∧ w.heap.size ≤ g ∧ Row3 w' g 3 (strV ks3) ∧ Below w.heap.size w w' :=
  Start_plain 1 ks3 2 1 3 _ w (Vars_plain 1 ⟨#[83, 82]⟩ ⟨#[83, 49, 32, 82, 32, 81, 49]⟩ ks3 2 1 40 3 _ w numbered_1 rfl rfl (by decide) (by decide) fld1 ht (by decide) (by decide)) (by decide) (by decide)
theorem fld2 : FldOk ⟨#[83, 32, 82, 49, 32, 81, 49]⟩ 3 (nmsOf [⟨#[83]⟩, ⟨#[82, 49]⟩, ⟨#[81, 49]⟩]) where
  small := by decide
  ascii := fun j b h => (show ∀ b ∈ (⟨#[83, 32, 82, 49, 32, 81, 49]⟩ : ByteArray).data.toList, b.toNat < 128 by decide) b (List.mem_of_getElem? h)
  len := by decide
  at_ := fun i hi => by
    match i, hi with
    | 0, _ => rfl
    | 1, _ => rfl
    | 2, _ => rfl
theorem Start_2 (w : World) (ht : Asc w) : Calls Tryd.prog 16 #[.int .i64 2] w fun e w' => ∃ g c, e = .returned (.slice (some ⟨g, 0, none⟩) 3 c) ∧ w.heap.size ≤ g ∧ Row3 w' g 3 (strV ks3) ∧ Below w.heap.size w w' :=
  Start_plain 2 ks3 2 1 3 _ w (Vars_plain 2 ⟨#[82, 83]⟩ ⟨#[83, 32, 82, 49, 32, 81, 49]⟩ ks3 2 1 41 3 _ w numbered_2 rfl rfl (by decide) (by decide) fld2 ht (by decide) (by decide)) (by decide) (by decide)
theorem fld3 : FldOk ⟨#[67, 76, 75, 32, 81, 32, 77]⟩ 3 (nmsOf [⟨#[67, 76, 75]⟩, ⟨#[81]⟩, ⟨#[77]⟩]) where
  small := by decide
  ascii := fun j b h => (show ∀ b ∈ (⟨#[67, 76, 75, 32, 81, 32, 77]⟩ : ByteArray).data.toList, b.toNat < 128 by decide) b (List.mem_of_getElem? h)
  len := by decide
  at_ := fun i hi => by
    match i, hi with
    | 0, _ => rfl
    | 1, _ => rfl
    | 2, _ => rfl
theorem Start_3 (w : World) (ht : Asc w) : Calls Tryd.prog 16 #[.int .i64 3] w fun e w' => ∃ g c, e = .returned (.slice (some ⟨g, 0, none⟩) 3 c) ∧ w.heap.size ≤ g ∧ Row3 w' g 3 (strV ks3) ∧ Below w.heap.size w w' :=
  Start_plain 3 ks3 1 1 3 _ w (Vars_plain 3 ⟨#[82, 95, 84, 82, 73, 71]⟩ ⟨#[67, 76, 75, 32, 81, 32, 77]⟩ ks3 1 1 42 3 _ w numbered_3 rfl rfl (by decide) (by decide) fld3 ht (by decide) (by decide)) (by decide) (by decide)
theorem fld5 : FldOk ⟨#[67, 85, 32, 82, 32, 80, 86, 32, 81, 32, 67, 86, 32, 77]⟩ 6 (nmsOf [⟨#[67, 85]⟩, ⟨#[82]⟩, ⟨#[80, 86]⟩, ⟨#[81]⟩, ⟨#[67, 86]⟩, ⟨#[77]⟩]) where
  small := by decide
  ascii := fun j b h => (show ∀ b ∈ (⟨#[67, 85, 32, 82, 32, 80, 86, 32, 81, 32, 67, 86, 32, 77]⟩ : ByteArray).data.toList, b.toNat < 128 by decide) b (List.mem_of_getElem? h)
  len := by decide
  at_ := fun i hi => by
    match i, hi with
    | 0, _ => rfl
    | 1, _ => rfl
    | 2, _ => rfl
    | 3, _ => rfl
    | 4, _ => rfl
    | 5, _ => rfl
theorem Start_5 (w : World) (ht : Asc w) : Calls Tryd.prog 16 #[.int .i64 5] w fun e w' => ∃ g c, e = .returned (.slice (some ⟨g, 0, none⟩) 6 c) ∧ w.heap.size ≤ g ∧ Row3 w' g 6 (strV ksC) ∧ Below w.heap.size w w' :=
  Start_plain 5 ksC 3 2 6 _ w (Vars_plain 5 ⟨#[67, 84, 85]⟩ ⟨#[67, 85, 32, 82, 32, 80, 86, 32, 81, 32, 67, 86, 32, 77]⟩ ksC 3 2 44 6 _ w numbered_5 rfl rfl (by decide) (by decide) fld5 ht (by decide) (by decide)) (by decide) (by decide)
theorem fld6 : FldOk ⟨#[67, 68, 32, 76, 68, 32, 80, 86, 32, 81, 32, 67, 86, 32, 77]⟩ 6 (nmsOf [⟨#[67, 68]⟩, ⟨#[76, 68]⟩, ⟨#[80, 86]⟩, ⟨#[81]⟩, ⟨#[67, 86]⟩, ⟨#[77]⟩]) where
  small := by decide
  ascii := fun j b h => (show ∀ b ∈ (⟨#[67, 68, 32, 76, 68, 32, 80, 86, 32, 81, 32, 67, 86, 32, 77]⟩ : ByteArray).data.toList, b.toNat < 128 by decide) b (List.mem_of_getElem? h)
  len := by decide
  at_ := fun i hi => by
    match i, hi with
    | 0, _ => rfl
    | 1, _ => rfl
    | 2, _ => rfl
    | 3, _ => rfl
    | 4, _ => rfl
    | 5, _ => rfl
theorem Start_6 (w : World) (ht : Asc w) : Calls Tryd.prog 16 #[.int .i64 6] w fun e w' => ∃ g c, e = .returned (.slice (some ⟨g, 0, none⟩) 6 c) ∧ w.heap.size ≤ g ∧ Row3 w' g 6 (strV ksC) ∧ Below w.heap.size w w' :=
  Start_plain 6 ksC 3 2 6 _ w (Vars_plain 6 ⟨#[67, 84, 68]⟩ ⟨#[67, 68, 32, 76, 68, 32, 80, 86, 32, 81, 32, 67, 86, 32, 77]⟩ ksC 3 2 45 6 _ w numbered_6 rfl rfl (by decide) (by decide) fld6 ht (by decide) (by decide)) (by decide) (by decide)
theorem fld7 : FldOk ⟨#[67, 85, 32, 67, 68, 32, 82, 32, 76, 68, 32, 80, 86, 32, 81, 85, 32, 81, 68, 32, 67, 86, 32, 77, 32, 78]⟩ 10 (nmsOf [⟨#[67, 85]⟩, ⟨#[67, 68]⟩, ⟨#[82]⟩, ⟨#[76, 68]⟩, ⟨#[80, 86]⟩, ⟨#[81, 85]⟩, ⟨#[81, 68]⟩, ⟨#[67, 86]⟩, ⟨#[77]⟩, ⟨#[78]⟩]) where
  small := by decide
  ascii := fun j b h => (show ∀ b ∈ (⟨#[67, 85, 32, 67, 68, 32, 82, 32, 76, 68, 32, 80, 86, 32, 81, 85, 32, 81, 68, 32, 67, 86, 32, 77, 32, 78]⟩ : ByteArray).data.toList, b.toNat < 128 by decide) b (List.mem_of_getElem? h)
  len := by decide
  at_ := fun i hi => by
    match i, hi with
    | 0, _ => rfl
    | 1, _ => rfl
    | 2, _ => rfl
    | 3, _ => rfl
    | 4, _ => rfl
    | 5, _ => rfl
    | 6, _ => rfl
    | 7, _ => rfl
    | 8, _ => rfl
    | 9, _ => rfl
theorem Start_7 (w : World) (ht : Asc w) : Calls Tryd.prog 16 #[.int .i64 7] w fun e w' => ∃ g c, e = .returned (.slice (some ⟨g, 0, none⟩) 10 c) ∧ w.heap.size ≤ g ∧ Row3 w' g 10 (strV ksB) ∧ Below w.heap.size w w' :=
  Start_plain 7 ksB 5 3 10 _ w (Vars_plain 7 ⟨#[67, 84, 85, 68]⟩ ⟨#[67, 85, 32, 67, 68, 32, 82, 32, 76, 68, 32, 80, 86, 32, 81, 85, 32, 81, 68, 32, 67, 86, 32, 77, 32, 78]⟩ ksB 5 3 46 10 _ w numbered_7 rfl rfl (by decide) (by decide) fld7 ht (by decide) (by decide)) (by decide) (by decide)
theorem fld8 : FldOk ⟨#[73, 78, 32, 80, 84, 32, 81, 32, 69, 84, 32, 77, 32, 83]⟩ 6 (nmsOf [⟨#[73, 78]⟩, ⟨#[80, 84]⟩, ⟨#[81]⟩, ⟨#[69, 84]⟩, ⟨#[77]⟩, ⟨#[83]⟩]) where
  small := by decide
  ascii := fun j b h => (show ∀ b ∈ (⟨#[73, 78, 32, 80, 84, 32, 81, 32, 69, 84, 32, 77, 32, 83]⟩ : ByteArray).data.toList, b.toNat < 128 by decide) b (List.mem_of_getElem? h)
  len := by decide
  at_ := fun i hi => by
    match i, hi with
    | 0, _ => rfl
    | 1, _ => rfl
    | 2, _ => rfl
    | 3, _ => rfl
    | 4, _ => rfl
    | 5, _ => rfl
theorem Start_8 (w : World) (ht : Asc w) : Calls Tryd.prog 16 #[.int .i64 8] w fun e w' => ∃ g c, e = .returned (.slice (some ⟨g, 0, none⟩) 6 c) ∧ w.heap.size ≤ g ∧ Row3 w' g 6 (strV ksT) ∧ Below w.heap.size w w' :=
  Start_plain 8 ksT 2 2 6 _ w (Vars_plain 8 ⟨#[84, 80]⟩ ⟨#[73, 78, 32, 80, 84, 32, 81, 32, 69, 84, 32, 77, 32, 83]⟩ ksT 2 2 47 6 _ w numbered_8 rfl rfl (by decide) (by decide) fld8 ht (by decide) (by decide)) (by decide) (by decide)
theorem fld9 : FldOk ⟨#[73, 78, 32, 80, 84, 32, 81, 32, 69, 84, 32, 77, 32, 83]⟩ 6 (nmsOf [⟨#[73, 78]⟩, ⟨#[80, 84]⟩, ⟨#[81]⟩, ⟨#[69, 84]⟩, ⟨#[77]⟩, ⟨#[83]⟩]) where
  small := by decide
  ascii := fun j b h => (show ∀ b ∈ (⟨#[73, 78, 32, 80, 84, 32, 81, 32, 69, 84, 32, 77, 32, 83]⟩ : ByteArray).data.toList, b.toNat < 128 by decide) b (List.mem_of_getElem? h)
  len := by decide
  at_ := fun i hi => by
    match i, hi with
    | 0, _ => rfl
    | 1, _ => rfl
    | 2, _ => rfl
    | 3, _ => rfl
    | 4, _ => rfl
    | 5, _ => rfl
theorem Start_9 (w : World) (ht : Asc w) : Calls Tryd.prog 16 #[.int .i64 9] w fun e w' => ∃ g c, e = .returned (.slice (some ⟨g, 0, none⟩) 6 c) ∧ w.heap.size ≤ g ∧ Row3 w' g 6 (strV ksT) ∧ Below w.heap.size w w' :=
  Start_plain 9 ksT 2 2 6 _ w (Vars_plain 9 ⟨#[84, 79, 78]⟩ ⟨#[73, 78, 32, 80, 84, 32, 81, 32, 69, 84, 32, 77, 32, 83]⟩ ksT 2 2 48 6 _ w numbered_9 rfl rfl (by decide) (by decide) fld9 ht (by decide) (by decide)) (by decide) (by decide)
theorem fld10 : FldOk ⟨#[73, 78, 32, 80, 84, 32, 81, 32, 69, 84, 32, 77, 32, 83]⟩ 6 (nmsOf [⟨#[73, 78]⟩, ⟨#[80, 84]⟩, ⟨#[81]⟩, ⟨#[69, 84]⟩, ⟨#[77]⟩, ⟨#[83]⟩]) where
  small := by decide
  ascii := fun j b h => (show ∀ b ∈ (⟨#[73, 78, 32, 80, 84, 32, 81, 32, 69, 84, 32, 77, 32, 83]⟩ : ByteArray).data.toList, b.toNat < 128 by decide) b (List.mem_of_getElem? h)
  len := by decide
  at_ := fun i hi => by
    match i, hi with
    | 0, _ => rfl
    | 1, _ => rfl
    | 2, _ => rfl
    | 3, _ => rfl
    | 4, _ => rfl
    | 5, _ => rfl
theorem Start_10 (w : World) (ht : Asc w) : Calls Tryd.prog 16 #[.int .i64 10] w fun e w' => ∃ g c, e = .returned (.slice (some ⟨g, 0, none⟩) 6 c) ∧ w.heap.size ≤ g ∧ Row3 w' g 6 (strV ksT) ∧ Below w.heap.size w w' :=
  Start_plain 10 ksT 2 2 6 _ w (Vars_plain 10 ⟨#[84, 79, 70]⟩ ⟨#[73, 78, 32, 80, 84, 32, 81, 32, 69, 84, 32, 77, 32, 83]⟩ ksT 2 2 49 6 _ w numbered_10 rfl rfl (by decide) (by decide) fld10 ht (by decide) (by decide)) (by decide) (by decide)
end Go.Proofs.YtjnegbjgogkamaaDoor
