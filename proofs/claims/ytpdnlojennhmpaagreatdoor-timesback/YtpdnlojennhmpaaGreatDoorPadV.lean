/- What times.padded answers; no statement of the seat is proved here. -/
import Derived.Test.YtpdnlojennhmpaaGreatDoorDecP
import Derived.Test.YtpdnlojennhmpaaGreatDoorRp
import Derived.Test.YtpdnlojennhmpaaGreatDoorIt
import Derived.Test.YtpdnlojennhmpaaGreatDoorCvC
import Derived.Lib.ItoaMem
namespace Go.Proofs.YtpdnlojennhmpaaGreatDoor
set_option linter.unusedVariables false
open Go.RowKit
/-- So many noughts. -/
def noughts (c : Nat) : ByteArray := ⟨(List.replicate c (48 : UInt8)).toArray⟩
theorem noughts_size (c : Nat) : (noughts c).size = c := by unfold noughts; show (List.replicate c (48 : UInt8)).toArray.size = c; simp
theorem repN48 : ∀ c, Lib.repeatL [48] c = List.replicate c (48 : UInt8) := by
  intro c
  induction c with
  | zero => rfl
  | succ c ih => simp [Lib.repeatL, List.replicate_succ] at *; exact ih
set_option maxRecDepth 100000 in
theorem RepeatN_0 (w : World) : Calls Tryz.prog 53 #[.string ⟨#[48]⟩, .int .i64 0] w fun e w' => e = .returned (.string (noughts 0)) ∧ Below w.heap.size w w' := by
  go_enter Tryz.func53, Tryz.ntmps53
  go_wp2
  go_ret
  exact ⟨rfl, Below.refl _ _⟩
set_option maxRecDepth 100000 in
theorem RepeatN_1 (w : World) : Calls Tryz.prog 53 #[.string ⟨#[48]⟩, .int .i64 1] w fun e w' => e = .returned (.string (noughts 1)) ∧ Below w.heap.size w w' := by
  go_enter Tryz.func53, Tryz.ntmps53
  go_wp2
  go_ret
  exact ⟨rfl, Below.refl _ _⟩
theorem RepeatN_of (c : Nat) (h : c ≤ 100) (w : World) : Calls Tryz.prog 53 #[.string ⟨#[48]⟩, .int .i64 c] w fun e w' => e = .returned (.string (noughts c)) ∧ Below w.heap.size w w' := by
  by_cases c0 : c = 0
  · subst c0; exact RepeatN_0 w
  by_cases c1 : c = 1
  · subst c1; exact RepeatN_1 w
  have := Tryz.strings_Repeat_main ⟨#[48]⟩ c w (by omega) (by omega) (by show 1 * c ≤ _; omega) (by decide)
  have e : (⟨(Lib.repeatL (⟨#[48]⟩ : ByteArray).data.toList c).toArray⟩ : ByteArray) = noughts c := by
    unfold noughts; rw [← repN48]
  rw [e] at this
  exact this
theorem dec_pad (u d : Nat) : noughts (d - (decS u).size) ++ decS u = dcS u d := by
  have l : (decS u).size = Lib.nDigits u := by unfold decS; show (Lib.decDigits u).toArray.size = _; simp [Lib.decDigits_length]
  rw [l]
  apply ByteArray.ext
  rw [ByteArray.data_append]
  unfold noughts dcS decS
  have e : max d (Lib.nDigits u) = Lib.nDigits u + (d - Lib.nDigits u) := by omega
  simp only [e]
  rw [decLow_pad _ u (Lib.lt_pow_nDigits u), decLow_all]
  simp
theorem dgrow_below (w : World) (k : Nat) (os : Array Obj) : Below w.heap.size w (Go.Sort.grow (w.drewN k) os) :=
  ⟨rfl, rfl, rfl, by show w.heap.size ≤ (Go.Sort.grow (w.drewN k) os).heap.size; simp, fun j hj => Go.Sort.heap_grow_old (w.drewN k) os hj⟩
set_option maxRecDepth 100000 in
set_option maxHeartbeats 1000000 in
theorem padded_of (n d : Nat) (h : n ≤ 9223372036854775807) (hd : d ≤ 20) (w : World) (hP : Pow w) :
    Calls Tryz.prog 24 #[.int .i64 n, .int .i64 d] w fun e w' => e = .returned (.string (dcS n d)) ∧ Below w.heap.size w w' := by
  have I : Hid (Calls Tryz.prog 52 #[.int .i64 n] w fun e w' => e = .returned (.string (decS n)) ∧ Below w.heap.size w w') := by
    show Calls _ _ _ _ _
    refine (Tryz.strconv_Itoa n (by omega) (by omega) w hP).mono ?_
    rintro e w' ⟨rfl, k, os, rfl⟩
    exact ⟨by rw [Lib.itoa_nonneg]; rfl, dgrow_below _ _ _⟩
  have S := decS_size n (by omega)
  have R : Hid (∀ w, Calls Tryz.prog 53 #[.string ⟨#[48]⟩, .int .i64 (max 0 ((d : Int) - (decS n).size))] w fun e w' => e = .returned (.string (noughts (d - (decS n).size))) ∧ Below w.heap.size w w') := fun w => by
    have := RepeatN_of (d - (decS n).size) (by omega) w
    rwa [show ((d - (decS n).size : Nat) : Int) = max 0 ((d : Int) - (decS n).size) by omega] at this
  have F : Hid _ := dec_pad n d
  have ns := noughts_size (d - (decS n).size)
  generalize noughts (d - (decS n).size) = q at *
  generalize decS n = t at *
  clear hP
  go_enter Tryz.func24, Tryz.ntmps24
  go_wp2_with fail
  refine Calls.mono I.out ?_
  rintro e w1 ⟨rfl, hb⟩
  have B1 : Hid (Below w.heap.size w w1) := hb
  clear hb
  go_wp2_with fail
  refine (R.out _).mono ?_
  rintro e w2 ⟨rfl, hb⟩
  have B2 : Hid (Below w.heap.size w w2) := B1.out.trans (hb.mono B1.out.size)
  clear hb
  go_wp2
  go_ret
  exact ⟨congrArg (fun x => Ending.returned (Value.string x)) F.out, B2.out⟩
end Go.Proofs.YtpdnlojennhmpaaGreatDoor
