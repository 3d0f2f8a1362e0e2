/- What strings.Fields finds in the formal names of the standard functions; no statement of the seat is proved here. -/
import Derived.Test.YtpaibmganlaaeaaGreatDoorFz19
import Derived.Test.YtpaibmganlaaeaaGreatDoorFl
import Derived.Test.YtpaibmganlaaeaaGreatDoorFz02
import Derived.Shelf.Unicode.PredsPay
import Derived.Laws.CopyOwn
import Derived.Deep.WholeRow
import Derived.Handy
import Derived.Test.YtpaibmganlaaeaaGreatDoorFz01
import Derived.Test.YtpaibmganlaaeaaGreatDoorFz03
namespace Go.Proofs.YtpaibmganlaaeaaGreatDoor
set_option linter.unusedVariables false
open Go.RowKit
/-- A standard function: its name, formal names, the number of the next one, what it goes by, what it takes and gives. -/
structure Fu where
  nm : ByteArray
  fm : ByteArray
  nx : Int
  hw : Int
  tk : Option Nat
  gv : Option Nat
abbrev FF (f : Nat) : Value := .func (.func f) #[] #[]
/-- A function's value, if there is one. -/
abbrev FO (f : Option Nat) : Value := match f with
  | none => .nilFunc
  | some f => .func (.func f) #[] #[]
abbrev FV (f : Fu) : Value := .agg #[.string f.nm, .string f.fm, .int .i64 f.nx, .int .i64 f.hw, FO f.tk, FO f.gv]
/-- No function. -/
def fu0 : Fu := ⟨⟨#[]⟩, ⟨#[]⟩, 0, 0, none, none⟩
/-- The function of a number. -/
def fuT (k : Nat) : Fu := match k with
  | 1 => ⟨⟨#[65, 68, 68]⟩, ⟨#[73, 78, 49, 32, 73, 78, 50]⟩, 3, 1, some 35, some 36⟩
  | 2 => ⟨⟨#[83, 85, 66]⟩, ⟨#[73, 78, 49, 32, 73, 78, 50]⟩, 0, 2, some 35, some 36⟩
  | 3 => ⟨⟨#[77, 85, 76]⟩, ⟨#[73, 78, 49, 32, 73, 78, 50]⟩, 3, 3, some 35, some 36⟩
  | 4 => ⟨⟨#[68, 73, 86]⟩, ⟨#[73, 78, 49, 32, 73, 78, 50]⟩, 0, 4, some 35, some 36⟩
  | 5 => ⟨⟨#[77, 79, 68]⟩, ⟨#[73, 78, 49, 32, 73, 78, 50]⟩, 0, 5, some 35, some 36⟩
  | 6 => ⟨⟨#[65, 78, 68]⟩, ⟨#[73, 78, 49, 32, 73, 78, 50]⟩, 3, 6, some 35, some 36⟩
  | 7 => ⟨⟨#[79, 82]⟩, ⟨#[73, 78, 49, 32, 73, 78, 50]⟩, 3, 7, some 35, some 36⟩
  | 8 => ⟨⟨#[88, 79, 82]⟩, ⟨#[73, 78, 49, 32, 73, 78, 50]⟩, 3, 8, some 35, some 36⟩
  | 9 => ⟨⟨#[78, 79, 84]⟩, ⟨#[73, 78]⟩, 0, 16, some 37, some 38⟩
  | 10 => ⟨⟨#[69, 81]⟩, ⟨#[73, 78, 49, 32, 73, 78, 50]⟩, 3, 9, some 39, some 40⟩
  | 11 => ⟨⟨#[78, 69]⟩, ⟨#[73, 78, 49, 32, 73, 78, 50]⟩, 0, 10, some 39, some 40⟩
  | 12 => ⟨⟨#[76, 84]⟩, ⟨#[73, 78, 49, 32, 73, 78, 50]⟩, 3, 11, some 39, some 40⟩
  | 13 => ⟨⟨#[76, 69]⟩, ⟨#[73, 78, 49, 32, 73, 78, 50]⟩, 3, 12, some 39, some 40⟩
  | 14 => ⟨⟨#[71, 84]⟩, ⟨#[73, 78, 49, 32, 73, 78, 50]⟩, 3, 13, some 39, some 40⟩
  | 15 => ⟨⟨#[71, 69]⟩, ⟨#[73, 78, 49, 32, 73, 78, 50]⟩, 3, 14, some 39, some 40⟩
  | 16 => ⟨⟨#[77, 79, 86, 69]⟩, ⟨#[73, 78]⟩, 0, 0, some 41, some 42⟩
  | 17 => ⟨⟨#[65, 66, 83]⟩, ⟨#[73, 78]⟩, 0, 0, some 43, some 44⟩
  | 18 => ⟨⟨#[77, 73, 78]⟩, ⟨#[73, 78, 49, 32, 73, 78, 50]⟩, 3, 11, some 41, some 45⟩
  | 19 => ⟨⟨#[77, 65, 88]⟩, ⟨#[73, 78, 49, 32, 73, 78, 50]⟩, 3, 13, some 41, some 45⟩
  | 20 => ⟨⟨#[76, 73, 77, 73, 84]⟩, ⟨#[77, 78, 32, 73, 78, 32, 77, 88]⟩, 0, 0, some 41, some 46⟩
  | 21 => ⟨⟨#[83, 69, 76]⟩, ⟨#[71, 32, 73, 78, 48, 32, 73, 78, 49]⟩, 0, 0, some 47, some 48⟩
  | 22 => ⟨⟨#[77, 85, 88]⟩, ⟨#[75, 32, 73, 78, 48]⟩, 1, 0, some 49, some 48⟩
  | 23 => ⟨⟨#[83, 72, 76]⟩, ⟨#[73, 78, 32, 78]⟩, 0, 0, some 50, some 51⟩
  | 24 => ⟨⟨#[83, 72, 82]⟩, ⟨#[73, 78, 32, 78]⟩, 0, 0, some 50, some 52⟩
  | 25 => ⟨⟨#[82, 79, 76]⟩, ⟨#[73, 78, 32, 78]⟩, 0, 0, some 50, some 53⟩
  | 26 => ⟨⟨#[82, 79, 82]⟩, ⟨#[73, 78, 32, 78]⟩, 0, 0, some 50, some 54⟩
  | 27 => ⟨⟨#[76, 69, 78]⟩, ⟨#[73, 78]⟩, 0, 3, some 55, some 56⟩
  | 28 => ⟨⟨#[76, 69, 70, 84]⟩, ⟨#[73, 78, 32, 76]⟩, 0, 19, some 55, some 57⟩
  | 29 => ⟨⟨#[82, 73, 71, 72, 84]⟩, ⟨#[73, 78, 32, 76]⟩, 0, 19, some 55, some 58⟩
  | 30 => ⟨⟨#[77, 73, 68]⟩, ⟨#[73, 78, 32, 76, 32, 80]⟩, 0, 19, some 55, some 59⟩
  | 31 => ⟨⟨#[67, 79, 78, 67, 65, 84]⟩, ⟨#[73, 78, 49, 32, 73, 78, 50]⟩, 3, 19, some 60, some 61⟩
  | 32 => ⟨⟨#[73, 78, 83, 69, 82, 84]⟩, ⟨#[73, 78, 49, 32, 73, 78, 50, 32, 80]⟩, 0, 19, some 62, some 63⟩
  | 33 => ⟨⟨#[68, 69, 76, 69, 84, 69]⟩, ⟨#[73, 78, 32, 76, 32, 80]⟩, 0, 19, some 55, some 64⟩
  | 34 => ⟨⟨#[82, 69, 80, 76, 65, 67, 69]⟩, ⟨#[73, 78, 49, 32, 73, 78, 50, 32, 76, 32, 80]⟩, 0, 19, some 62, some 65⟩
  | 35 => ⟨⟨#[70, 73, 78, 68]⟩, ⟨#[73, 78, 49, 32, 73, 78, 50]⟩, 0, 3, some 62, some 66⟩
  | 36 => ⟨⟨#[84, 82, 85, 78, 67]⟩, ⟨#[73, 78]⟩, 0, 5, some 67, some 68⟩
  | _ => fu0
theorem fu_at0 (w : World) : (Instr.index 49 (.agg fuCells) (.int .i64 0)).run Tryz.prog w = .ok (FV fu0) w := by kernel_rfl
theorem fu_atK (k : Nat) (h : k < 37) (w : World) : (Instr.index 49 (.agg fuCells) (.int .i64 k)).run Tryz.prog w = .ok (FV (fuT k)) w := by
  match k, h with
  | 0, _ => exact fu_at0 w
  | 1, _ => exact fu_at1 w
  | 2, _ => exact fu_at2 w
  | 3, _ => exact fu_at3 w
  | 4, _ => exact fu_at4 w
  | 5, _ => exact fu_at5 w
  | 6, _ => exact fu_at6 w
  | 7, _ => exact fu_at7 w
  | 8, _ => exact fu_at8 w
  | 9, _ => exact fu_at9 w
  | 10, _ => exact fu_at10 w
  | 11, _ => exact fu_at11 w
  | 12, _ => exact fu_at12 w
  | 13, _ => exact fu_at13 w
  | 14, _ => exact fu_at14 w
  | 15, _ => exact fu_at15 w
  | 16, _ => exact fu_at16 w
  | 17, _ => exact fu_at17 w
  | 18, _ => exact fu_at18 w
  | 19, _ => exact fu_at19 w
  | 20, _ => exact fu_at20 w
  | 21, _ => exact fu_at21 w
  | 22, _ => exact fu_at22 w
  | 23, _ => exact fu_at23 w
  | 24, _ => exact fu_at24 w
  | 25, _ => exact fu_at25 w
  | 26, _ => exact fu_at26 w
  | 27, _ => exact fu_at27 w
  | 28, _ => exact fu_at28 w
  | 29, _ => exact fu_at29 w
  | 30, _ => exact fu_at30 w
  | 31, _ => exact fu_at31 w
  | 32, _ => exact fu_at32 w
  | 33, _ => exact fu_at33 w
  | 34, _ => exact fu_at34 w
  | 35, _ => exact fu_at35 w
  | 36, _ => exact fu_at36 w
  | n + 37, h => omega
end Go.Proofs.YtpaibmganlaaeaaGreatDoor
namespace Go.Proofs.YtpaibmganlaaeaaGreatDoor
set_option linter.unusedVariables false
open Go.RowKit
/-- The table that strings.Fields reads lies as it is laid. -/
def Asc (w : World) : Prop := Lib.TabIs Tryz.prog w "strings.asciiSpace" .u8 Lib.asciiSpaceTab
theorem Asc.below {w w' : World} (h : Asc w) (hb : Below w.heap.size w w') : Asc w' := TabIs_below (g := 1) (by kernel_rfl) h hb
/-- Texts lie in memory. -/
def NmAt (w : World) (g n : Nat) (nms : Nat → ByteArray) : Prop := ∀ i, i < n → w.cell? ⟨g, i, none⟩ = some (.string (nms i))
theorem NmAt.below {w w' : World} {g n : Nat} {nms : Nat → ByteArray} (h : NmAt w g n nms) (hb : Below w.heap.size w w') : NmAt w' g n nms := by
  intro i hi
  have z : g < w.heap.size := block_lt_of_cell (a := ⟨g, i, none⟩) (h i hi)
  rw [hb.cell (p := ⟨g, i, none⟩) z]; exact h i hi
/-- What strings.Fields finds in a text. -/
structure FldOk (names : ByteArray) (n : Nat) (nms : Nat → ByteArray) : Prop where
  small : names.size < 4294967281
  ascii : ∀ (j : Nat) b, names.data.toList[j]? = some b → b.toNat < 128
  len : (Lib.fields names.data.toList).length = n
  at_ : ∀ i, i < n → ((Lib.fields names.data.toList).map fun l => Value.string ⟨l.toArray⟩)[i]? = some (.string (nms i))
theorem Fields_of (names : ByteArray) (n : Nat) (nms : Nat → ByteArray) (w : World) (h : FldOk names n nms) (ht : Asc w) :
    Calls Tryz.prog 74 #[.string names] w fun e w' => e = .returned (.slice (some ⟨w.heap.size, 0, none⟩) n n) ∧ NmAt w' w.heap.size n nms ∧ w' = w.alloc (.cells ((Lib.fields names.data.toList).map fun l => Value.string ⟨l.toArray⟩).toArray 9) ∧ Below w.heap.size w w' :=
  (Tryz.strings_Fields_laid names w h.small h.ascii ht).mono (by
    rintro e w' ⟨rfl, rfl⟩
    refine ⟨by rw [h.len], fun i hi => ?_, rfl, (Below.refl _ _).alloc (Nat.le_refl _) _⟩
    have g := heap_alloc_last w (.cells ((Lib.fields names.data.toList).map fun l => Value.string ⟨l.toArray⟩).toArray 9)
    simp only [World.cell?, g]
    simpa using h.at_ i hi)
end Go.Proofs.YtpaibmganlaaeaaGreatDoor
namespace Go.Proofs.YtpaibmganlaaeaaGreatDoor
set_option linter.unusedVariables false
open Go.RowKit
/-- The box of a function that is answered, behind a call. -/
theorem step_fu {w w1 : World} {u : TypeId} (hb : Below (w.alloc (.cells #[.string ⟨#[]⟩, .string ⟨#[]⟩, .int .i64 0, .int .i64 0, .nilFunc, .nilFunc] u)).heap.size (w.alloc (.cells #[.string ⟨#[]⟩, .string ⟨#[]⟩, .int .i64 0, .int .i64 0, .nilFunc, .nilFunc] u)) w1) :
    w1.heap[w.heap.size]? = some (.cells #[.string ⟨#[]⟩, .string ⟨#[]⟩, .int .i64 0, .int .i64 0, .nilFunc, .nilFunc] u (0, 0)) ∧ Below w.heap.size w w1 := by
  refine ⟨?_, ((Below.refl _ _).alloc (Nat.le_refl _) _).trans (hb.mono (by simp))⟩
  rw [hb.block w.heap.size (by simp)]
  exact heap_alloc_last w _
theorem fun_info : (Tryz.prog.info? 42).map (·.size) = some 6 := by kernel_rfl
/-- The function of a number in the table. -/
theorem fu_cells (k : Nat) (h : k < 37) : fuCells[k * 6]? = some (.string (fuT k).nm) ∧ fuCells[k * 6 + 1]? = some (.string (fuT k).fm) ∧ fuCells[k * 6 + 2]? = some (.int .i64 (fuT k).nx) ∧ fuCells[k * 6 + 3]? = some (.int .i64 (fuT k).hw) ∧ fuCells[k * 6 + 4]? = some (FO (fuT k).tk) ∧ fuCells[k * 6 + 5]? = some (FO (fuT k).gv) := by
  match k, h with
  | 0, _ => exact ⟨by kernel_rfl, by kernel_rfl, by kernel_rfl, by kernel_rfl, by kernel_rfl, by kernel_rfl⟩
  | 1, _ => exact ⟨by kernel_rfl, by kernel_rfl, by kernel_rfl, by kernel_rfl, by kernel_rfl, by kernel_rfl⟩
  | 2, _ => exact ⟨by kernel_rfl, by kernel_rfl, by kernel_rfl, by kernel_rfl, by kernel_rfl, by kernel_rfl⟩
  | 3, _ => exact ⟨by kernel_rfl, by kernel_rfl, by kernel_rfl, by kernel_rfl, by kernel_rfl, by kernel_rfl⟩
  | 4, _ => exact ⟨by kernel_rfl, by kernel_rfl, by kernel_rfl, by kernel_rfl, by kernel_rfl, by kernel_rfl⟩
  | 5, _ => exact ⟨by kernel_rfl, by kernel_rfl, by kernel_rfl, by kernel_rfl, by kernel_rfl, by kernel_rfl⟩
  | 6, _ => exact ⟨by kernel_rfl, by kernel_rfl, by kernel_rfl, by kernel_rfl, by kernel_rfl, by kernel_rfl⟩
  | 7, _ => exact ⟨by kernel_rfl, by kernel_rfl, by kernel_rfl, by kernel_rfl, by kernel_rfl, by kernel_rfl⟩
  | 8, _ => exact ⟨by kernel_rfl, by kernel_rfl, by kernel_rfl, by kernel_rfl, by kernel_rfl, by kernel_rfl⟩
  | 9, _ => exact ⟨by kernel_rfl, by kernel_rfl, by kernel_rfl, by kernel_rfl, by kernel_rfl, by kernel_rfl⟩
  | 10, _ => exact ⟨by kernel_rfl, by kernel_rfl, by kernel_rfl, by kernel_rfl, by kernel_rfl, by kernel_rfl⟩
  | 11, _ => exact ⟨by kernel_rfl, by kernel_rfl, by kernel_rfl, by kernel_rfl, by kernel_rfl, by kernel_rfl⟩
  | 12, _ => exact ⟨by kernel_rfl, by kernel_rfl, by kernel_rfl, by kernel_rfl, by kernel_rfl, by kernel_rfl⟩
  | 13, _ => exact ⟨by kernel_rfl, by kernel_rfl, by kernel_rfl, by kernel_rfl, by kernel_rfl, by kernel_rfl⟩
  | 14, _ => exact ⟨by kernel_rfl, by kernel_rfl, by kernel_rfl, by kernel_rfl, by kernel_rfl, by kernel_rfl⟩
  | 15, _ => exact ⟨by kernel_rfl, by kernel_rfl, by kernel_rfl, by kernel_rfl, by kernel_rfl, by kernel_rfl⟩
  | 16, _ => exact ⟨by kernel_rfl, by kernel_rfl, by kernel_rfl, by kernel_rfl, by kernel_rfl, by kernel_rfl⟩
  | 17, _ => exact ⟨by kernel_rfl, by kernel_rfl, by kernel_rfl, by kernel_rfl, by kernel_rfl, by kernel_rfl⟩
  | 18, _ => exact ⟨by kernel_rfl, by kernel_rfl, by kernel_rfl, by kernel_rfl, by kernel_rfl, by kernel_rfl⟩
  | 19, _ => exact ⟨by kernel_rfl, by kernel_rfl, by kernel_rfl, by kernel_rfl, by kernel_rfl, by kernel_rfl⟩
  | 20, _ => exact ⟨by kernel_rfl, by kernel_rfl, by kernel_rfl, by kernel_rfl, by kernel_rfl, by kernel_rfl⟩
  | 21, _ => exact ⟨by kernel_rfl, by kernel_rfl, by kernel_rfl, by kernel_rfl, by kernel_rfl, by kernel_rfl⟩
  | 22, _ => exact ⟨by kernel_rfl, by kernel_rfl, by kernel_rfl, by kernel_rfl, by kernel_rfl, by kernel_rfl⟩
  | 23, _ => exact ⟨by kernel_rfl, by kernel_rfl, by kernel_rfl, by kernel_rfl, by kernel_rfl, by kernel_rfl⟩
  | 24, _ => exact ⟨by kernel_rfl, by kernel_rfl, by kernel_rfl, by kernel_rfl, by kernel_rfl, by kernel_rfl⟩
  | 25, _ => exact ⟨by kernel_rfl, by kernel_rfl, by kernel_rfl, by kernel_rfl, by kernel_rfl, by kernel_rfl⟩
  | 26, _ => exact ⟨by kernel_rfl, by kernel_rfl, by kernel_rfl, by kernel_rfl, by kernel_rfl, by kernel_rfl⟩
  | 27, _ => exact ⟨by kernel_rfl, by kernel_rfl, by kernel_rfl, by kernel_rfl, by kernel_rfl, by kernel_rfl⟩
  | 28, _ => exact ⟨by kernel_rfl, by kernel_rfl, by kernel_rfl, by kernel_rfl, by kernel_rfl, by kernel_rfl⟩
  | 29, _ => exact ⟨by kernel_rfl, by kernel_rfl, by kernel_rfl, by kernel_rfl, by kernel_rfl, by kernel_rfl⟩
  | 30, _ => exact ⟨by kernel_rfl, by kernel_rfl, by kernel_rfl, by kernel_rfl, by kernel_rfl, by kernel_rfl⟩
  | 31, _ => exact ⟨by kernel_rfl, by kernel_rfl, by kernel_rfl, by kernel_rfl, by kernel_rfl, by kernel_rfl⟩
  | 32, _ => exact ⟨by kernel_rfl, by kernel_rfl, by kernel_rfl, by kernel_rfl, by kernel_rfl, by kernel_rfl⟩
  | 33, _ => exact ⟨by kernel_rfl, by kernel_rfl, by kernel_rfl, by kernel_rfl, by kernel_rfl, by kernel_rfl⟩
  | 34, _ => exact ⟨by kernel_rfl, by kernel_rfl, by kernel_rfl, by kernel_rfl, by kernel_rfl, by kernel_rfl⟩
  | 35, _ => exact ⟨by kernel_rfl, by kernel_rfl, by kernel_rfl, by kernel_rfl, by kernel_rfl, by kernel_rfl⟩
  | 36, _ => exact ⟨by kernel_rfl, by kernel_rfl, by kernel_rfl, by kernel_rfl, by kernel_rfl, by kernel_rfl⟩
  | n + 37, h => omega
/-- A function's cells in memory. -/
structure FuAt (w : World) (g o : Nat) (f : Fu) : Prop where
  c0 : w.cell? ⟨g, o, none⟩ = some (.string f.nm)
  c1 : w.cell? ⟨g, o + 1, none⟩ = some (.string f.fm)
  c2 : w.cell? ⟨g, o + 2, none⟩ = some (.int .i64 f.nx)
  c3 : w.cell? ⟨g, o + 3, none⟩ = some (.int .i64 f.hw)
  c4 : w.cell? ⟨g, o + 4, none⟩ = some (FO f.tk)
  c5 : w.cell? ⟨g, o + 5, none⟩ = some (FO f.gv)
theorem FuAt.below {w wr : World} {g o : Nat} {f : Fu} (h : FuAt w g o f) (hb : Below w.heap.size w wr) : FuAt wr g o f := by
  have z := block_lt_of_cell h.c0
  exact ⟨(hb.cell (p := ⟨g, o, none⟩) z).trans h.c0, (hb.cell (p := ⟨g, o + 1, none⟩) z).trans h.c1, (hb.cell (p := ⟨g, o + 2, none⟩) z).trans h.c2, (hb.cell (p := ⟨g, o + 3, none⟩) z).trans h.c3, (hb.cell (p := ⟨g, o + 4, none⟩) z).trans h.c4, (hb.cell (p := ⟨g, o + 5, none⟩) z).trans h.c5⟩
/-- The table in a box of its own. -/
def TbAt (w : World) (g : Nat) : Prop := w.heap[g]? = some (.cells fuCells 49 (0, 0))
theorem TbAt.fu {w : World} {g : Nat} (h : TbAt w g) (k : Nat) (hk : k < 37) : FuAt w g (k * 6) (fuT k) := by
  obtain ⟨a, b, c, d, e, f⟩ := fu_cells k hk
  unfold TbAt at h
  exact ⟨by simp only [World.cell?, h]; simpa using a, by simp only [World.cell?, h]; simpa using b, by simp only [World.cell?, h]; simpa using c, by simp only [World.cell?, h]; simpa using d, by simp only [World.cell?, h]; simpa using e, by simp only [World.cell?, h]; simpa using f⟩
set_option maxRecDepth 20000 in
set_option maxHeartbeats 1000000 in
theorem numbered_K (k : Nat) (h1 : 1 ≤ k) (h2 : k < 37) (w : World) : Calls Tryz.prog 11 #[.int .i64 k] w fun e w' => e = .returned (FV (fuT k)) ∧ Below w.heap.size w w' := by
  have TF : Hid (∀ w g, TbAt w g → FuAt w g (k * 6) (fuT k)) := fun w g h => h.fu k h2
  generalize fuT k = f at *
  obtain ⟨nm, fm, nx, hw, tk, gv⟩ := f
  have g1 : (0 : Int) < k := by omega
  have g2 : (k : Int) < 37 := by omega
  clear h1
  cases tk <;> cases gv
  all_goals
    go_enter Tryz.func11, Tryz.ntmps11
    go_wp2_with (first | (go_at_call 19; refine (functions_of _).mono ?_; rintro e w1 ⟨rfl, hb⟩; obtain ⟨hc, HB⟩ := step_fu hb; clear hb) | (refine wpList_store_row rfl 49 _ _ rfl w1.heap.size fuCells (by kernel_rfl) (by kernel_rfl) _ _ (heap_alloc_last w1 _) fu_info (by kernel_rfl) (by kernel_rfl) ?_; rw [World.setRow_alloc_new]; have tb : TbAt (w1.alloc (.cells fuCells 49)) w1.heap.size := heap_alloc_last w1 _; have bb : Below w1.heap.size w1 (w1.alloc (.cells fuCells 49)) := (Below.refl _ _).alloc (Nat.le_refl _) _; have HB2 : Hid (Below w.heap.size w (w1.alloc (.cells fuCells 49))) := HB.trans (bb.mono HB.size); have hd : (w1.alloc (.cells fuCells 49)).heap[w.heap.size]? = _ := (bb.block _ (lt_of_block hc)).trans hc; obtain ⟨c0, c1, c2, c3, c4, c5⟩ := TF.out _ _ tb; clear tb bb; generalize (w1.alloc (.cells fuCells 49)) = w2 at *) | (refine wpList_store_row rfl 42 _ _ rfl w.heap.size _ rfl rfl _ _ hd fun_info rfl (by kernel_rfl) ?_))
    exact bodyPost_ret (v := FV ⟨nm, fm, nx, hw, _, _⟩) (results_cell_row Tryz.results11 _ _ w.heap.size _ _ (0, 0) _ (by simp) (setRow_heap _ _ _ _ _ _ hd) Tryz.underlying42 rfl fun_info) rfl ⟨rfl, below_setRow HB2.out (Nat.le_refl _) _⟩
end Go.Proofs.YtpaibmganlaaeaaGreatDoor
namespace Go.Proofs.YtpaibmganlaaeaaGreatDoor
set_option linter.unusedVariables false
open Go.RowKit
/-- The kinds' words. -/
def kwL : List ByteArray := [⟨#[]⟩, ⟨#[66, 79, 79, 76]⟩, ⟨#[83, 73, 78, 84]⟩, ⟨#[73, 78, 84]⟩, ⟨#[68, 73, 78, 84]⟩, ⟨#[76, 73, 78, 84]⟩, ⟨#[85, 83, 73, 78, 84]⟩, ⟨#[85, 73, 78, 84]⟩, ⟨#[85, 68, 73, 78, 84]⟩, ⟨#[85, 76, 73, 78, 84]⟩, ⟨#[66, 89, 84, 69]⟩, ⟨#[87, 79, 82, 68]⟩, ⟨#[68, 87, 79, 82, 68]⟩, ⟨#[76, 87, 79, 82, 68]⟩, ⟨#[84, 73, 77, 69]⟩, ⟨#[68, 65, 84, 69]⟩, ⟨#[84, 79, 68]⟩, ⟨#[68, 84]⟩, ⟨#[76, 82, 69, 65, 76]⟩, ⟨#[83, 84, 82, 73, 78, 71]⟩]
def kw (i : Nat) : ByteArray := kwL.getD i ⟨#[]⟩
/-- The table of words lies as laid. -/
structure KW (w : World) : Prop where
  lt : 0 < w.heap.size
  cl : ∀ i, i < 20 → w.cell? ⟨0, i, none⟩ = some (.string (kw i))
theorem KW.next {w w' : World} (h : KW w) (hb : Below w.heap.size w w') : KW w' := ⟨Nat.lt_of_lt_of_le h.lt hb.size, fun i hi => by rw [hb.cell (p := ⟨0, i, none⟩) h.lt]; exact h.cl i hi⟩
/-- A kind's word. -/
def wdS (k : Int) : ByteArray := if 1 ≤ k ∧ k ≤ 19 then kw k.toNat else ⟨#[]⟩
set_option maxHeartbeats 1000000 in
theorem wisKind_is (k : Int) (w : World) (p : Bool) (hk : 0 ≤ k ∧ k < 256) (h : p = decide (1 ≤ k ∧ k ≤ 19)) : Calls Tryz.prog 118 #[.int .u8 k] w fun e w' => e = .returned (.bool p) ∧ w' = w := by
  subst h
  rcases kinds k hk with rfl | rfl | rfl | rfl | rfl | rfl | rfl | rfl | rfl | rfl | rfl | rfl | rfl | rfl | rfl | rfl | rfl | rfl | rfl | rfl | hk2
  all_goals
    go_enter Tryz.func118, Tryz.ntmps118
    go_wp2
    go_ret
    exact ⟨ret_bool (by first | rfl | (symm; simp; omega) | (rw [Bool.eq_iff_iff]; simp; omega)), rfl⟩
set_option maxHeartbeats 1000000 in
theorem welem_is (k : Int) (w : World) (p : Bool) (hk : 0 ≤ k ∧ k < 256) (h : p = decide (1 ≤ k ∧ k ≤ 19)) : Calls Tryz.prog 76 #[.int .u8 k] w fun e w' => e = .returned (.bool p) ∧ w' = w := by
  subst h
  rcases kinds k hk with rfl | rfl | rfl | rfl | rfl | rfl | rfl | rfl | rfl | rfl | rfl | rfl | rfl | rfl | rfl | rfl | rfl | rfl | rfl | rfl | hk2
  all_goals
    go_enter Tryz.func76, Tryz.ntmps76
    go_wp2
    go_ret
    exact ⟨ret_bool (by first | rfl | (symm; simp; omega) | (rw [Bool.eq_iff_iff]; simp; omega)), rfl⟩
set_option maxHeartbeats 1000000 in
theorem Word_of (k : Int) (w : World) (hw : KW w) (hk : 0 ≤ k ∧ k < 256) : Calls Tryz.prog 71 #[.int .u8 k] w fun e w' => e = .returned (.string (wdS k)) ∧ w' = w := by
  unfold wdS
  by_cases c : 1 ≤ k ∧ k ≤ 19
  · rw [if_pos c]
    have C := hw.cl k.toNat (by omega)
    generalize kw k.toNat = t at *
    clear hw
    go_enter Tryz.func71, Tryz.ntmps71
    go_wp2_with (go_at_call 118; refine (wisKind_is k _ true hk (by symm; simp; omega)).mono ?_; rintro e w2 ⟨rfl, rfl⟩)
    go_ret
    exact ⟨rfl, rfl⟩
  · rw [if_neg c]
    go_enter Tryz.func71, Tryz.ntmps71
    go_wp2_with (go_at_call 118; refine (wisKind_is k _ false hk (by symm; simp; omega)).mono ?_; rintro e w2 ⟨rfl, rfl⟩)
    go_ret
    exact ⟨rfl, rfl⟩
set_option maxRecDepth 100000 in
set_option maxHeartbeats 1000000 in
theorem WordR_no (k : Int) (w : World) (hk : 0 ≤ k ∧ k < 256) (c : ¬ (1 ≤ k ∧ k ≤ 19)) : Calls Tryz.prog 75 #[.int .u8 k] w fun e w' => e = .returned (.string ⟨#[]⟩) ∧ Below w.heap.size w w' := by
  go_enter Tryz.func75, Tryz.ntmps75
  go_wp2_with (go_at_call 76; refine (welem_is k _ false hk (by symm; simp; omega)).mono ?_; rintro e w2 ⟨rfl, rfl⟩)
  go_ret
  exact ⟨rfl, (Below.refl _ _).alloc (Nat.le_refl _) _⟩
set_option maxRecDepth 100000 in
set_option maxHeartbeats 4000000 in
theorem WordR_yes (k : Int) (w : World) (hk : 0 ≤ k ∧ k < 256) (c : 1 ≤ k ∧ k ≤ 19) : Calls Tryz.prog 75 #[.int .u8 k] w fun e w' => e = .returned (.string (kw k.toNat)) ∧ Below w.heap.size w w' := by
  rcases kinds k hk with rfl | rfl | rfl | rfl | rfl | rfl | rfl | rfl | rfl | rfl | rfl | rfl | rfl | rfl | rfl | rfl | rfl | rfl | rfl | rfl | hk2
  all_goals first | omega | skip
  all_goals
    go_enter Tryz.func75, Tryz.ntmps75
    go_wp2_with (go_at_call 76; refine (welem_is _ _ true hk (by simp)).mono ?_; rintro e w2 ⟨rfl, rfl⟩)
    go_ret
    exact ⟨rfl, (Below.refl _ _).alloc (Nat.le_refl _) _⟩
theorem WordR_of (k : Int) (w : World) (hk : 0 ≤ k ∧ k < 256) : Calls Tryz.prog 75 #[.int .u8 k] w fun e w' => e = .returned (.string (wdS k)) ∧ Below w.heap.size w w' := by
  unfold wdS
  by_cases c : 1 ≤ k ∧ k ≤ 19
  · rw [if_pos c]; exact WordR_yes k w hk c
  · rw [if_neg c]; exact WordR_no k w hk c
end Go.Proofs.YtpaibmganlaaeaaGreatDoor
namespace Go.Proofs.YtpaibmganlaaeaaGreatDoor
set_option linter.unusedVariables false
open Go.RowKit
/-- The first kind from i on, of n, with that word. -/
def kfind (s : ByteArray) : Nat → Nat → Option Nat
  | _, 0 => none
  | i, n + 1 => if ((kw i).toList == s.toList) = true then some i else kfind s (i + 1) n
def kdR (s : ByteArray) : Value := match kfind s 1 19 with
  | some k => .tuple #[.int .u8 (k : Int), .bool true]
  | none => .tuple #[.int .u8 0, .bool false]
theorem kfind_step (s : ByteArray) (i : Nat) (h : 1 ≤ i ∧ i ≤ 19) (hn : ((kw i).toList == s.toList) = false) : kfind s i (20 - i) = kfind s (i + 1) (20 - (i + 1)) := by
  obtain ⟨n, hn'⟩ : ∃ n, 20 - i = n + 1 := ⟨19 - i, by omega⟩
  rw [hn', kfind, if_neg (by simp [hn]), show 20 - (i + 1) = n by omega]
theorem kfind_here (s : ByteArray) (i : Nat) (h : 1 ≤ i ∧ i ≤ 19) (hn : ((kw i).toList == s.toList) = true) : kfind s i (20 - i) = some i := by
  obtain ⟨n, hn'⟩ : ∃ n, 20 - i = n + 1 := ⟨19 - i, by omega⟩
  rw [hn', kfind, if_pos hn]
set_option maxHeartbeats 1000000 in
theorem Kind_of (s : ByteArray) (w : World) (hw : KW w) : Calls Tryz.prog 21 #[.string s] w fun e w' => e = .returned (kdR s) ∧ w' = w := by
  have HW : Hid (KW w) := hw
  clear hw
  go_enter Tryz.func21, Tryz.ntmps21
  go_wp2
  go_loop [4] (fun k => ∃ i : Nat, 1 ≤ i ∧ i ≤ 20 ∧ k = .int .u8 (i : Int) ∧ Hid (kfind s 1 19 = kfind s i (20 - i))) (fun k => (20 - intOf k).toNat)
  case atStart => exact ⟨1, by omega, by omega, rfl, rfl⟩
  case round =>
    obtain ⟨i, h1, h2, rfl, HI⟩ := hrel
    by_cases c : i ≤ 19
    · have c' : (i : Int) ≤ 19 := by omega
      have C := HW.out.cl i (by omega)
      cases e : ((kw i).toList == s.toList)
      case true =>
        have R : Hid (kdR s = .tuple #[.int .u8 (i : Int), .bool true]) := by show _ = _; unfold kdR; rw [HI.out, kfind_here s i ⟨h1, c⟩ e]
        generalize hkw : kw i = t at *
        clear hkw
        go_wp2
        exact bodyPost_ret (v := .tuple #[.int .u8 (i : Int), .bool true]) (by simp [results, Tryz.results21, go_sem]) rfl ⟨by rw [R.out], rfl⟩
      case false =>
        have HN : Hid (kfind s 1 19 = kfind s (i + 1) (20 - (i + 1))) := by show _ = _; rw [HI.out, kfind_step s i ⟨h1, c⟩ e]
        generalize hkw : kw i = t at *
        clear hkw
        go_wp2
        refine ⟨⟨i + 1, by omega, by omega, by push_cast; rfl, HN.out⟩, ?_⟩
        simp [intOf]
        omega
    · have c' : ¬ (i : Int) ≤ 19 := by omega
      have R : Hid (kdR s = .tuple #[.int .u8 0, .bool false]) := by
        show _ = _; unfold kdR; rw [HI.out, show 20 - i = 0 by omega]; rfl
      go_wp2
      exact bodyPost_ret (v := .tuple #[.int .u8 0, .bool false]) (by simp [results, Tryz.results21, go_sem]) rfl ⟨by rw [R.out], rfl⟩
set_option maxHeartbeats 1000000 in
theorem KindR_of (s : ByteArray) (w : World) : Calls Tryz.prog 27 #[.string s] w fun e w' => e = .returned (kdR s) ∧ Below w.heap.size w w' := by
  go_enter Tryz.func27, Tryz.ntmps27
  go_wp2
  go_loopw [4] (fun k wr => ∃ i : Nat, 1 ≤ i ∧ i ≤ 20 ∧ k = .int .u8 (i : Int) ∧ Hid (kfind s 1 19 = kfind s i (20 - i)) ∧ Below w.heap.size w wr) (fun k _ => (20 - intOf k).toNat)
  case atStart => exact ⟨1, by omega, by omega, rfl, rfl, Below.refl _ _⟩
  case round =>
    obtain ⟨i, h1, h2, rfl, HI, B0⟩ := hrel
    have B : Hid _ := B0
    clear B0
    by_cases c : i ≤ 19
    · have c' : (i : Int) ≤ 19 := by omega
      have C : Hid (∀ w, Calls Tryz.prog 75 #[.int .u8 (i : Int)] w fun e w' => e = .returned (.string (kw i)) ∧ Below w.heap.size w w') := fun w => by
        have := WordR_of (i : Int) w (by omega)
        unfold wdS at this
        rw [if_pos (by omega)] at this
        simpa using this
      cases e : ((kw i).toList == s.toList)
      case true =>
        have R : Hid (kdR s = .tuple #[.int .u8 (i : Int), .bool true]) := by show _ = _; unfold kdR; rw [HI.out, kfind_here s i ⟨h1, c⟩ e]
        generalize hkw : kw i = t at *
        clear hkw
        go_wp2_with (go_at_call 75; refine (C.out _).mono ?_; rintro e w2 ⟨rfl, hb⟩)
        exact bodyPost_ret (v := .tuple #[.int .u8 (i : Int), .bool true]) (by simp [results, Tryz.results27, go_sem]) rfl ⟨by rw [R.out], B.out.trans (hb.mono B.out.size)⟩
      case false =>
        have HN : Hid (kfind s 1 19 = kfind s (i + 1) (20 - (i + 1))) := by show _ = _; rw [HI.out, kfind_step s i ⟨h1, c⟩ e]
        generalize hkw : kw i = t at *
        clear hkw
        go_wp2_with (go_at_call 75; refine (C.out _).mono ?_; rintro e w2 ⟨rfl, hb⟩)
        refine ⟨⟨i + 1, by omega, by omega, by push_cast; rfl, HN.out, B.out.trans (hb.mono B.out.size)⟩, ?_⟩
        simp [intOf]
        omega
    · have c' : ¬ (i : Int) ≤ 19 := by omega
      have R : Hid (kdR s = .tuple #[.int .u8 0, .bool false]) := by
        show _ = _; unfold kdR; rw [HI.out, show 20 - i = 0 by omega]; rfl
      go_wp2
      exact bodyPost_ret (v := .tuple #[.int .u8 0, .bool false]) (by simp [results, Tryz.results27, go_sem]) rfl ⟨by rw [R.out], B.out⟩
end Go.Proofs.YtpaibmganlaaeaaGreatDoor
namespace Go.Proofs.YtpaibmganlaaeaaGreatDoor
set_option linter.unusedVariables false
open Go.RowKit
/-- The function that converts to a kind. -/
def fuC (k : Nat) : Fu := ⟨⟨#[84, 79, 95]⟩ ++ kw k, ⟨#[73, 78]⟩, 0, k, some 72, some 73⟩
theorem kw_size (k : Nat) : (kw k).size ≤ 100 := by
  unfold kw
  rcases Nat.lt_or_ge k 20 with h | h
  · have : ∀ i : Fin 20, (kwL.getD i.1 ⟨#[]⟩).size ≤ 100 := by decide
    exact this ⟨k, h⟩
  · have : kwL[k]? = none := List.getElem?_eq_none (by have : kwL.length = 20 := rfl; omega)
    rw [List.getD_eq_getElem?_getD, this]; decide
theorem wd_kw (k : Nat) (h : 1 ≤ k ∧ k ≤ 19) : wdS (k : Int) = kw k := by unfold wdS; rw [if_pos (by omega)]; rfl
set_option maxHeartbeats 1000000 in
theorem conversion_of (k : Nat) (h : 1 ≤ k ∧ k ≤ 19) (w : World) (hk : KW w) :
    Calls Tryz.prog 24 #[.int .u8 k] w fun e w' => e = .returned (FV (fuC k)) ∧ Below w.heap.size w w' := by
  have W : Hid (∀ w, KW w → Calls Tryz.prog 71 #[.int .u8 k] w fun e w' => e = .returned (.string (kw k)) ∧ w' = w) := fun w hw => by
    have := Word_of k w hw (by omega); rwa [wd_kw k h] at this
  have HK : Hid (KW w) := hk
  have cc : ∀ w, (Op.stringOp .add ⟨#[84, 79, 95]⟩ (kw k)).run Tryz.prog w = .ok (.string (⟨#[84, 79, 95]⟩ ++ kw k)) w := fun w => run_string_add_sum w _ _ (by have := kw_size k; have e : (⟨#[84, 79, 95]⟩ : ByteArray).size = 3 := rfl; omega)
  clear hk
  go_enter Tryz.func24, Tryz.ntmps24
  go_wp2_with (first | (go_at_call 71; refine (W.out _ (HK.out.next ((Below.refl _ _).alloc (Nat.le_refl _) _))).mono ?_; rintro e w1 ⟨rfl, h1⟩; subst h1) | (refine wpList_store_row rfl 42 _ _ rfl w.heap.size _ rfl rfl _ _ (heap_alloc_last w _) fun_info rfl (by kernel_rfl) ?_; rw [World.setRow_alloc_new]))
  exact bodyPost_ret (v := FV (fuC k)) (results_cell_row Tryz.results24 _ _ w.heap.size _ _ (0, 0) _ (by simp [Act.put]) (heap_alloc_last w _) Tryz.underlying42 rfl fun_info) rfl ⟨rfl, (Below.refl _ _).alloc (Nat.le_refl _) _⟩
theorem Count_of (w : World) : Calls Tryz.prog 23 #[] w fun e w' => e = .returned (.int .i64 84) ∧ w' = w := by
  go_enter Tryz.func23, Tryz.ntmps23
  go_wp2
  go_ret
  exact ⟨rfl, rfl⟩
set_option maxRecDepth 20000 in
set_option maxHeartbeats 1000000 in
theorem numbered_C (k : Nat) (h : 1 ≤ k ∧ k ≤ 19) (w : World) (hk : KW w) :
    Calls Tryz.prog 11 #[.int .i64 (64 + (k : Int))] w fun e w' => e = .returned (FV (fuC k)) ∧ Below w.heap.size w w' := by
  have C : Hid (∀ (z : Int) w, z = k → KW w → Calls Tryz.prog 24 #[.int .u8 z] w fun e w' => e = .returned (FV (fuC k)) ∧ Below w.heap.size w w') := fun z w hz hw => by subst hz; exact conversion_of k h w hw
  have HK : Hid (KW w) := hk
  clear hk
  have g1 : (1 : Int) ≤ k := by omega
  have g2 : (k : Int) ≤ 19 := by omega
  go_enter Tryz.func11, Tryz.ntmps11
  go_wp2_with (first | (go_at_call 23; refine (Count_of _).mono ?_; rintro e wC ⟨rfl, hC⟩; subst hC) | (go_at_call 19; refine (functions_of _).mono ?_; rintro e w1 ⟨rfl, hb⟩; obtain ⟨hc, HB⟩ := step_fu hb; clear hb) | (refine wpList_store_row rfl 49 _ _ rfl w1.heap.size fuCells (by kernel_rfl) (by kernel_rfl) _ _ (heap_alloc_last w1 _) fu_info (by kernel_rfl) (by kernel_rfl) ?_; rw [World.setRow_alloc_new]; have bb : Below w1.heap.size w1 (w1.alloc (.cells fuCells 49)) := (Below.refl _ _).alloc (Nat.le_refl _) _; have HB2 : Hid (Below w.heap.size w (w1.alloc (.cells fuCells 49))) := HB.trans (bb.mono HB.size); have hd : (w1.alloc (.cells fuCells 49)).heap[w.heap.size]? = _ := (bb.block _ (lt_of_block hc)).trans hc; clear bb; generalize (w1.alloc (.cells fuCells 49)) = w2 at *) | (go_at_call 24; refine (C.out _ _ (by first | rfl | omega | (simp; done) | (simp; omega)) (HK.out.next HB2.out)).mono ?_; rintro e w3 ⟨rfl, hb3⟩; have HB3 : Hid (Below w.heap.size w w3) := HB2.out.trans (hb3.mono HB2.out.size); have he : w3.heap[w.heap.size]? = _ := (hb3.block _ (lt_of_block hd)).trans hd; clear hb3) | (refine wpList_store_row rfl 42 _ _ rfl w.heap.size _ rfl rfl _ _ he fun_info rfl (by kernel_rfl) ?_))
  exact bodyPost_ret (v := FV (fuC k)) (results_cell_row Tryz.results11 _ _ w.heap.size _ _ (0, 0) _ (by simp [Act.put]) (setRow_heap _ _ _ _ _ _ he) Tryz.underlying42 rfl fun_info) rfl ⟨rfl, below_setRow HB3.out (Nat.le_refl _) _⟩
set_option maxRecDepth 20000 in
set_option maxHeartbeats 1000000 in
theorem numbered_0 (z : Int) (h1 : z < 1 ∨ 36 < z) (h2 : z < 65 ∨ 83 < z) (w : World) :
    Calls Tryz.prog 11 #[.int .i64 z] w fun e w' => e = .returned (FV fu0) ∧ Below w.heap.size w w' := by
  rcases (by omega : z < 1 ∨ (36 < z ∧ z < 65) ∨ 83 < z) with h | h | h
  all_goals
    clear h1 h2
    try obtain ⟨h, h'⟩ := h
    go_enter Tryz.func11, Tryz.ntmps11
    go_wp2_with (first | (go_at_call 23; refine (Count_of _).mono ?_; rintro e wC ⟨rfl, hC⟩; subst hC) | (go_at_call 19; refine (functions_of _).mono ?_; rintro e w1 ⟨rfl, hb⟩; obtain ⟨hc, HB⟩ := step_fu hb; clear hb) | (refine wpList_store_row rfl 49 _ _ rfl w1.heap.size fuCells (by kernel_rfl) (by kernel_rfl) _ _ (heap_alloc_last w1 _) fu_info (by kernel_rfl) (by kernel_rfl) ?_; rw [World.setRow_alloc_new]; have bb : Below w1.heap.size w1 (w1.alloc (.cells fuCells 49)) := (Below.refl _ _).alloc (Nat.le_refl _) _; have HB2 : Hid (Below w.heap.size w (w1.alloc (.cells fuCells 49))) := HB.trans (bb.mono HB.size); have hd : (w1.alloc (.cells fuCells 49)).heap[w.heap.size]? = _ := (bb.block _ (lt_of_block hc)).trans hc; clear bb; generalize (w1.alloc (.cells fuCells 49)) = w2 at *) | (refine wpList_store_row rfl 42 _ _ rfl w.heap.size _ rfl rfl _ _ hd fun_info rfl (by kernel_rfl) ?_))
    exact bodyPost_ret (v := FV fu0) (results_cell_row Tryz.results11 _ _ w.heap.size _ _ (0, 0) _ (by first | (simp; done) | simp [Act.put]) (setRow_heap _ _ _ _ _ _ hd) Tryz.underlying42 rfl fun_info) rfl ⟨rfl, below_setRow HB2.out (Nat.le_refl _) _⟩
/-- The function of any number. -/
def fuA (z : Int) : Fu := if 1 ≤ z ∧ z ≤ 36 then fuT z.toNat else if 65 ≤ z ∧ z ≤ 83 then fuC (z - 64).toNat else fu0
theorem numbered_any (z : Int) (w : World) (hk : KW w) : Calls Tryz.prog 11 #[.int .i64 z] w fun e w' => e = .returned (FV (fuA z)) ∧ Below w.heap.size w w' := by
  unfold fuA
  by_cases a : 1 ≤ z ∧ z ≤ 36
  · rw [if_pos a]
    obtain ⟨n, rfl⟩ : ∃ n : Nat, z = n := ⟨z.toNat, by omega⟩
    exact numbered_K n (by omega) (by omega) w
  · rw [if_neg a]
    by_cases b : 65 ≤ z ∧ z ≤ 83
    · rw [if_pos b]
      obtain ⟨n, rfl⟩ : ∃ n : Nat, z = 64 + (n : Int) := ⟨(z - 64).toNat, by omega⟩
      have e : (64 + (n : Int) - 64).toNat = n := by omega
      rw [e]
      exact numbered_C n (by omega) w hk
    · rw [if_neg b]; exact numbered_0 z (by omega) (by omega) w
end Go.Proofs.YtpaibmganlaaeaaGreatDoor
namespace Go.Proofs.YtpaibmganlaaeaaGreatDoor
set_option linter.unusedVariables false
open Go.RowKit
/-- The texts of a list by their numbers. -/
def nmsF (l : List ByteArray) (i : Nat) : ByteArray := l.getD i ⟨#[]⟩
theorem fldS1 : FldOk ⟨#[73, 78, 49, 32, 73, 78, 50]⟩ 2 (nmsF [⟨#[73, 78, 49]⟩, ⟨#[73, 78, 50]⟩]) where
  small := by decide
  ascii := by
    intro j b h
    have hj : j < 7 := by
      rcases Nat.lt_or_ge j 7 with g | g
      · exact g
      · rw [List.getElem?_eq_none (by simpa using g)] at h; cases h
    match j, hj with
    | 0, _ => cases h; decide
    | 1, _ => cases h; decide
    | 2, _ => cases h; decide
    | 3, _ => cases h; decide
    | 4, _ => cases h; decide
    | 5, _ => cases h; decide
    | 6, _ => cases h; decide
  len := by kernel_rfl
  at_ := by
    intro i hi
    match i, hi with
    | 0, _ => rfl
    | 1, _ => rfl
theorem fldS2 : FldOk ⟨#[73, 78]⟩ 1 (nmsF [⟨#[73, 78]⟩]) where
  small := by decide
  ascii := by
    intro j b h
    have hj : j < 2 := by
      rcases Nat.lt_or_ge j 2 with g | g
      · exact g
      · rw [List.getElem?_eq_none (by simpa using g)] at h; cases h
    match j, hj with
    | 0, _ => cases h; decide
    | 1, _ => cases h; decide
  len := by kernel_rfl
  at_ := by
    intro i hi
    match i, hi with
    | 0, _ => rfl
theorem fldS3 : FldOk ⟨#[77, 78, 32, 73, 78, 32, 77, 88]⟩ 3 (nmsF [⟨#[77, 78]⟩, ⟨#[73, 78]⟩, ⟨#[77, 88]⟩]) where
  small := by decide
  ascii := by
    intro j b h
    have hj : j < 8 := by
      rcases Nat.lt_or_ge j 8 with g | g
      · exact g
      · rw [List.getElem?_eq_none (by simpa using g)] at h; cases h
    match j, hj with
    | 0, _ => cases h; decide
    | 1, _ => cases h; decide
    | 2, _ => cases h; decide
    | 3, _ => cases h; decide
    | 4, _ => cases h; decide
    | 5, _ => cases h; decide
    | 6, _ => cases h; decide
    | 7, _ => cases h; decide
  len := by kernel_rfl
  at_ := by
    intro i hi
    match i, hi with
    | 0, _ => rfl
    | 1, _ => rfl
    | 2, _ => rfl
theorem fldS4 : FldOk ⟨#[71, 32, 73, 78, 48, 32, 73, 78, 49]⟩ 3 (nmsF [⟨#[71]⟩, ⟨#[73, 78, 48]⟩, ⟨#[73, 78, 49]⟩]) where
  small := by decide
  ascii := by
    intro j b h
    have hj : j < 9 := by
      rcases Nat.lt_or_ge j 9 with g | g
      · exact g
      · rw [List.getElem?_eq_none (by simpa using g)] at h; cases h
    match j, hj with
    | 0, _ => cases h; decide
    | 1, _ => cases h; decide
    | 2, _ => cases h; decide
    | 3, _ => cases h; decide
    | 4, _ => cases h; decide
    | 5, _ => cases h; decide
    | 6, _ => cases h; decide
    | 7, _ => cases h; decide
    | 8, _ => cases h; decide
  len := by kernel_rfl
  at_ := by
    intro i hi
    match i, hi with
    | 0, _ => rfl
    | 1, _ => rfl
    | 2, _ => rfl
theorem fldS5 : FldOk ⟨#[75, 32, 73, 78, 48]⟩ 2 (nmsF [⟨#[75]⟩, ⟨#[73, 78, 48]⟩]) where
  small := by decide
  ascii := by
    intro j b h
    have hj : j < 5 := by
      rcases Nat.lt_or_ge j 5 with g | g
      · exact g
      · rw [List.getElem?_eq_none (by simpa using g)] at h; cases h
    match j, hj with
    | 0, _ => cases h; decide
    | 1, _ => cases h; decide
    | 2, _ => cases h; decide
    | 3, _ => cases h; decide
    | 4, _ => cases h; decide
  len := by kernel_rfl
  at_ := by
    intro i hi
    match i, hi with
    | 0, _ => rfl
    | 1, _ => rfl
theorem fldS6 : FldOk ⟨#[73, 78, 32, 78]⟩ 2 (nmsF [⟨#[73, 78]⟩, ⟨#[78]⟩]) where
  small := by decide
  ascii := by
    intro j b h
    have hj : j < 4 := by
      rcases Nat.lt_or_ge j 4 with g | g
      · exact g
      · rw [List.getElem?_eq_none (by simpa using g)] at h; cases h
    match j, hj with
    | 0, _ => cases h; decide
    | 1, _ => cases h; decide
    | 2, _ => cases h; decide
    | 3, _ => cases h; decide
  len := by kernel_rfl
  at_ := by
    intro i hi
    match i, hi with
    | 0, _ => rfl
    | 1, _ => rfl
theorem fldS7 : FldOk ⟨#[73, 78, 32, 76]⟩ 2 (nmsF [⟨#[73, 78]⟩, ⟨#[76]⟩]) where
  small := by decide
  ascii := by
    intro j b h
    have hj : j < 4 := by
      rcases Nat.lt_or_ge j 4 with g | g
      · exact g
      · rw [List.getElem?_eq_none (by simpa using g)] at h; cases h
    match j, hj with
    | 0, _ => cases h; decide
    | 1, _ => cases h; decide
    | 2, _ => cases h; decide
    | 3, _ => cases h; decide
  len := by kernel_rfl
  at_ := by
    intro i hi
    match i, hi with
    | 0, _ => rfl
    | 1, _ => rfl
theorem fldS8 : FldOk ⟨#[73, 78, 32, 76, 32, 80]⟩ 3 (nmsF [⟨#[73, 78]⟩, ⟨#[76]⟩, ⟨#[80]⟩]) where
  small := by decide
  ascii := by
    intro j b h
    have hj : j < 6 := by
      rcases Nat.lt_or_ge j 6 with g | g
      · exact g
      · rw [List.getElem?_eq_none (by simpa using g)] at h; cases h
    match j, hj with
    | 0, _ => cases h; decide
    | 1, _ => cases h; decide
    | 2, _ => cases h; decide
    | 3, _ => cases h; decide
    | 4, _ => cases h; decide
    | 5, _ => cases h; decide
  len := by kernel_rfl
  at_ := by
    intro i hi
    match i, hi with
    | 0, _ => rfl
    | 1, _ => rfl
    | 2, _ => rfl
theorem fldS9 : FldOk ⟨#[73, 78, 49, 32, 73, 78, 50, 32, 80]⟩ 3 (nmsF [⟨#[73, 78, 49]⟩, ⟨#[73, 78, 50]⟩, ⟨#[80]⟩]) where
  small := by decide
  ascii := by
    intro j b h
    have hj : j < 9 := by
      rcases Nat.lt_or_ge j 9 with g | g
      · exact g
      · rw [List.getElem?_eq_none (by simpa using g)] at h; cases h
    match j, hj with
    | 0, _ => cases h; decide
    | 1, _ => cases h; decide
    | 2, _ => cases h; decide
    | 3, _ => cases h; decide
    | 4, _ => cases h; decide
    | 5, _ => cases h; decide
    | 6, _ => cases h; decide
    | 7, _ => cases h; decide
    | 8, _ => cases h; decide
  len := by kernel_rfl
  at_ := by
    intro i hi
    match i, hi with
    | 0, _ => rfl
    | 1, _ => rfl
    | 2, _ => rfl
theorem fldS10 : FldOk ⟨#[73, 78, 49, 32, 73, 78, 50, 32, 76, 32, 80]⟩ 4 (nmsF [⟨#[73, 78, 49]⟩, ⟨#[73, 78, 50]⟩, ⟨#[76]⟩, ⟨#[80]⟩]) where
  small := by decide
  ascii := by
    intro j b h
    have hj : j < 11 := by
      rcases Nat.lt_or_ge j 11 with g | g
      · exact g
      · rw [List.getElem?_eq_none (by simpa using g)] at h; cases h
    match j, hj with
    | 0, _ => cases h; decide
    | 1, _ => cases h; decide
    | 2, _ => cases h; decide
    | 3, _ => cases h; decide
    | 4, _ => cases h; decide
    | 5, _ => cases h; decide
    | 6, _ => cases h; decide
    | 7, _ => cases h; decide
    | 8, _ => cases h; decide
    | 9, _ => cases h; decide
    | 10, _ => cases h; decide
  len := by kernel_rfl
  at_ := by
    intro i hi
    match i, hi with
    | 0, _ => rfl
    | 1, _ => rfl
    | 2, _ => rfl
    | 3, _ => rfl
end Go.Proofs.YtpaibmganlaaeaaGreatDoor
