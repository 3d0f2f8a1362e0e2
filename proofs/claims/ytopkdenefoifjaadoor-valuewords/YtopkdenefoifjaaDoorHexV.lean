/- What value.hexDigits and strings.Repeat of noughts answer; no statement of the seat is proved here. -/
import Derived.Test.YtopkdenefoifjaaDoorFmtJ
import Derived.Test.YtopkdenefoifjaaDoorUp
import Derived.Test.YtopkdenefoifjaaDoorRp
import Derived.Test.YtopkdenefoifjaaDoorMayV
namespace Go.Proofs.YtopkdenefoifjaaDoor
set_option linter.unusedVariables false
open Go.RowKit
theorem hexDigits_of (u : Nat) (h : u < 18446744073709551616) (w : World) (hz : Tz4 w) :
    Calls Tryd.prog 13 #[.int .u64 u] w fun e w' => e = .returned (.string ⟨(hexLow (hexDig u).length u).toArray⟩) ∧ Below w.heap.size w w' := by
  have F : Hid _ := FormatUint_16 u h w hz
  have U : Hid (∀ w, Calls Tryd.prog 25 #[.string ⟨(hexDig u).toArray⟩] w fun e w' => e = .returned (.string ⟨(hexLow (hexDig u).length u).toArray⟩) ∧ Below w.heap.size w w') := fun w => by
    have := Tryd.strings_ToUpper_ascii ⟨(hexDig u).toArray⟩ w (by
      show (hexDig u).toArray.size ≤ _
      have := hexDig_le u h
      simp; omega) (fun j b hb => hexDig_low u b (by
        have hb : (hexDig u)[j]? = some b := by simpa using hb
        exact List.mem_of_getElem? hb))
    have e : Lib.toUpperA (hexDig u) = hexLow (hexDig u).length u := by
      rw [← hexDig_up]; rfl
    simpa [e] using this
  clear hz
  generalize (hexLow (hexDig u).length u).toArray = x at *
  generalize (hexDig u).toArray = y at *
  go_enter Tryd.func13, Tryd.ntmps13
  go_wp2_with (first
    | (go_at_call 22; refine Calls.mono F.out ?_; rintro e w1 ⟨rfl, hb⟩)
    | (go_at_call 25; refine (U.out _).mono ?_; rintro e w2 ⟨rfl, hb2⟩))
  go_ret
  exact ⟨rfl, hb.trans (hb2.mono hb.size)⟩
/-- So many noughts. -/
def nghts (c : Nat) : ByteArray := ⟨(List.replicate c (48 : UInt8)).toArray⟩
theorem nghts_size (c : Nat) : (nghts c).size = c := by unfold nghts; show (List.replicate c (48 : UInt8)).toArray.size = c; simp
theorem rep48 : ∀ c, Lib.repeatL [48] c = List.replicate c (48 : UInt8) := by
  intro c
  induction c with
  | zero => rfl
  | succ c ih => simp [Lib.repeatL, List.replicate_succ] at *; exact ih
set_option maxRecDepth 100000 in
theorem Repeat_0 (w : World) : Calls Tryd.prog 14 #[.string ⟨#[48]⟩, .int .i64 0] w fun e w' => e = .returned (.string (nghts 0)) ∧ Below w.heap.size w w' := by
  go_enter Tryd.func14, Tryd.ntmps14
  go_wp2
  go_ret
  exact ⟨rfl, Below.refl _ _⟩
set_option maxRecDepth 100000 in
theorem Repeat_1 (w : World) : Calls Tryd.prog 14 #[.string ⟨#[48]⟩, .int .i64 1] w fun e w' => e = .returned (.string (nghts 1)) ∧ Below w.heap.size w w' := by
  go_enter Tryd.func14, Tryd.ntmps14
  go_wp2
  go_ret
  exact ⟨rfl, Below.refl _ _⟩
theorem Repeat_of (c : Nat) (h : c ≤ 100) (w : World) : Calls Tryd.prog 14 #[.string ⟨#[48]⟩, .int .i64 c] w fun e w' => e = .returned (.string (nghts c)) ∧ Below w.heap.size w w' := by
  by_cases c0 : c = 0
  · subst c0; exact Repeat_0 w
  by_cases c1 : c = 1
  · subst c1; exact Repeat_1 w
  have := Tryd.strings_Repeat_main ⟨#[48]⟩ c w (by omega) (by omega) (by show 1 * c ≤ _; omega) (by decide)
  have e : (⟨(Lib.repeatL (⟨#[48]⟩ : ByteArray).data.toList c).toArray⟩ : ByteArray) = nghts c := by
    unfold nghts; rw [← rep48]
  rw [e] at this
  exact this
end Go.Proofs.YtopkdenefoifjaaDoor
