/- The standard functions by their numbers, and what numbered answers for them; no statement of the seat is proved here. -/
import Derived.Test.YtkanhbokdjppoaaGreatDoorStdT
namespace Go.Proofs.YtkanhbokdjppoaaGreatDoor
set_option linter.unusedVariables false
open Go.RowKit
/-- A standard function: its name, formal names, the number of the next one, what it goes by, what it takes and gives. -/
structure Fu where
  nm : ByteArray
  fm : ByteArray
  nx : Int
  hw : Int
  tk : Option Nat
  gv : Option Nat
abbrev FF (f : Nat) : Value := .func (.func f) #[] #[]
/-- A function's value, if there is one. -/
abbrev FO (f : Option Nat) : Value := match f with
  | none => .nilFunc
  | some f => .func (.func f) #[] #[]
abbrev FV (f : Fu) : Value := .agg #[.string f.nm, .string f.fm, .int .i64 f.nx, .int .i64 f.hw, FO f.tk, FO f.gv]
/-- No function. -/
def fu0 : Fu := ⟨⟨#[]⟩, ⟨#[]⟩, 0, 0, none, none⟩
/-- The function of a number. -/
def fuT (k : Nat) : Fu := match k with
  | 1 => ⟨⟨#[65, 68, 68]⟩, ⟨#[73, 78, 49, 32, 73, 78, 50]⟩, 3, 1, some 54, some 55⟩
  | 2 => ⟨⟨#[83, 85, 66]⟩, ⟨#[73, 78, 49, 32, 73, 78, 50]⟩, 0, 2, some 54, some 55⟩
  | 3 => ⟨⟨#[77, 85, 76]⟩, ⟨#[73, 78, 49, 32, 73, 78, 50]⟩, 3, 3, some 54, some 55⟩
  | 4 => ⟨⟨#[68, 73, 86]⟩, ⟨#[73, 78, 49, 32, 73, 78, 50]⟩, 0, 4, some 54, some 55⟩
  | 5 => ⟨⟨#[77, 79, 68]⟩, ⟨#[73, 78, 49, 32, 73, 78, 50]⟩, 0, 5, some 54, some 55⟩
  | 6 => ⟨⟨#[65, 78, 68]⟩, ⟨#[73, 78, 49, 32, 73, 78, 50]⟩, 3, 6, some 54, some 55⟩
  | 7 => ⟨⟨#[79, 82]⟩, ⟨#[73, 78, 49, 32, 73, 78, 50]⟩, 3, 7, some 54, some 55⟩
  | 8 => ⟨⟨#[88, 79, 82]⟩, ⟨#[73, 78, 49, 32, 73, 78, 50]⟩, 3, 8, some 54, some 55⟩
  | 9 => ⟨⟨#[78, 79, 84]⟩, ⟨#[73, 78]⟩, 0, 16, some 56, some 57⟩
  | 10 => ⟨⟨#[69, 81]⟩, ⟨#[73, 78, 49, 32, 73, 78, 50]⟩, 3, 9, some 58, some 59⟩
  | 11 => ⟨⟨#[78, 69]⟩, ⟨#[73, 78, 49, 32, 73, 78, 50]⟩, 0, 10, some 58, some 59⟩
  | 12 => ⟨⟨#[76, 84]⟩, ⟨#[73, 78, 49, 32, 73, 78, 50]⟩, 3, 11, some 58, some 59⟩
  | 13 => ⟨⟨#[76, 69]⟩, ⟨#[73, 78, 49, 32, 73, 78, 50]⟩, 3, 12, some 58, some 59⟩
  | 14 => ⟨⟨#[71, 84]⟩, ⟨#[73, 78, 49, 32, 73, 78, 50]⟩, 3, 13, some 58, some 59⟩
  | 15 => ⟨⟨#[71, 69]⟩, ⟨#[73, 78, 49, 32, 73, 78, 50]⟩, 3, 14, some 58, some 59⟩
  | 16 => ⟨⟨#[77, 79, 86, 69]⟩, ⟨#[73, 78]⟩, 0, 0, some 60, some 61⟩
  | 17 => ⟨⟨#[65, 66, 83]⟩, ⟨#[73, 78]⟩, 0, 0, some 62, some 63⟩
  | 18 => ⟨⟨#[77, 73, 78]⟩, ⟨#[73, 78, 49, 32, 73, 78, 50]⟩, 3, 11, some 60, some 64⟩
  | 19 => ⟨⟨#[77, 65, 88]⟩, ⟨#[73, 78, 49, 32, 73, 78, 50]⟩, 3, 13, some 60, some 64⟩
  | 20 => ⟨⟨#[76, 73, 77, 73, 84]⟩, ⟨#[77, 78, 32, 73, 78, 32, 77, 88]⟩, 0, 0, some 60, some 65⟩
  | 21 => ⟨⟨#[83, 69, 76]⟩, ⟨#[71, 32, 73, 78, 48, 32, 73, 78, 49]⟩, 0, 0, some 66, some 67⟩
  | 22 => ⟨⟨#[77, 85, 88]⟩, ⟨#[75, 32, 73, 78, 48]⟩, 1, 0, some 68, some 67⟩
  | 23 => ⟨⟨#[83, 72, 76]⟩, ⟨#[73, 78, 32, 78]⟩, 0, 0, some 69, some 70⟩
  | 24 => ⟨⟨#[83, 72, 82]⟩, ⟨#[73, 78, 32, 78]⟩, 0, 0, some 69, some 71⟩
  | 25 => ⟨⟨#[82, 79, 76]⟩, ⟨#[73, 78, 32, 78]⟩, 0, 0, some 69, some 72⟩
  | 26 => ⟨⟨#[82, 79, 82]⟩, ⟨#[73, 78, 32, 78]⟩, 0, 0, some 69, some 73⟩
  | 27 => ⟨⟨#[76, 69, 78]⟩, ⟨#[73, 78]⟩, 0, 3, some 74, some 75⟩
  | 28 => ⟨⟨#[76, 69, 70, 84]⟩, ⟨#[73, 78, 32, 76]⟩, 0, 19, some 74, some 76⟩
  | 29 => ⟨⟨#[82, 73, 71, 72, 84]⟩, ⟨#[73, 78, 32, 76]⟩, 0, 19, some 74, some 77⟩
  | 30 => ⟨⟨#[77, 73, 68]⟩, ⟨#[73, 78, 32, 76, 32, 80]⟩, 0, 19, some 74, some 78⟩
  | 31 => ⟨⟨#[67, 79, 78, 67, 65, 84]⟩, ⟨#[73, 78, 49, 32, 73, 78, 50]⟩, 3, 19, some 79, some 80⟩
  | 32 => ⟨⟨#[73, 78, 83, 69, 82, 84]⟩, ⟨#[73, 78, 49, 32, 73, 78, 50, 32, 80]⟩, 0, 19, some 81, some 82⟩
  | 33 => ⟨⟨#[68, 69, 76, 69, 84, 69]⟩, ⟨#[73, 78, 32, 76, 32, 80]⟩, 0, 19, some 74, some 83⟩
  | 34 => ⟨⟨#[82, 69, 80, 76, 65, 67, 69]⟩, ⟨#[73, 78, 49, 32, 73, 78, 50, 32, 76, 32, 80]⟩, 0, 19, some 81, some 84⟩
  | 35 => ⟨⟨#[70, 73, 78, 68]⟩, ⟨#[73, 78, 49, 32, 73, 78, 50]⟩, 0, 3, some 81, some 85⟩
  | 36 => ⟨⟨#[84, 82, 85, 78, 67]⟩, ⟨#[73, 78]⟩, 0, 5, some 86, some 87⟩
  | _ => fu0
theorem fu_at0 (w : World) : (Instr.index 67 (.agg fuCells) (.int .i64 0)).run Tryz.prog w = .ok (FV fu0) w := by kernel_rfl
theorem fu_atK (k : Nat) (h : k < 37) (w : World) : (Instr.index 67 (.agg fuCells) (.int .i64 k)).run Tryz.prog w = .ok (FV (fuT k)) w := by
  match k, h with
  | 0, _ => exact fu_at0 w
  | 1, _ => exact fu_at1 w
  | 2, _ => exact fu_at2 w
  | 3, _ => exact fu_at3 w
  | 4, _ => exact fu_at4 w
  | 5, _ => exact fu_at5 w
  | 6, _ => exact fu_at6 w
  | 7, _ => exact fu_at7 w
  | 8, _ => exact fu_at8 w
  | 9, _ => exact fu_at9 w
  | 10, _ => exact fu_at10 w
  | 11, _ => exact fu_at11 w
  | 12, _ => exact fu_at12 w
  | 13, _ => exact fu_at13 w
  | 14, _ => exact fu_at14 w
  | 15, _ => exact fu_at15 w
  | 16, _ => exact fu_at16 w
  | 17, _ => exact fu_at17 w
  | 18, _ => exact fu_at18 w
  | 19, _ => exact fu_at19 w
  | 20, _ => exact fu_at20 w
  | 21, _ => exact fu_at21 w
  | 22, _ => exact fu_at22 w
  | 23, _ => exact fu_at23 w
  | 24, _ => exact fu_at24 w
  | 25, _ => exact fu_at25 w
  | 26, _ => exact fu_at26 w
  | 27, _ => exact fu_at27 w
  | 28, _ => exact fu_at28 w
  | 29, _ => exact fu_at29 w
  | 30, _ => exact fu_at30 w
  | 31, _ => exact fu_at31 w
  | 32, _ => exact fu_at32 w
  | 33, _ => exact fu_at33 w
  | 34, _ => exact fu_at34 w
  | 35, _ => exact fu_at35 w
  | 36, _ => exact fu_at36 w
  | n + 37, h => omega
end Go.Proofs.YtkanhbokdjppoaaGreatDoor
