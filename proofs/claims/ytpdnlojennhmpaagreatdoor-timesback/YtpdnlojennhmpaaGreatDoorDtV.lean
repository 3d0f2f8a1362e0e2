/- What times.printDate answers; no statement of the seat is proved here. -/
import Derived.Test.YtpdnlojennhmpaaGreatDoorPadV
import Derived.Test.YtpdnlojennhmpaaGreatDoorDecR
import Derived.Test.YtpdnlojennhmpaaGreatDoorCivil
import Derived.Lib.ItoaLen
import Derived.Test.YtpdnlojennhmpaaGreatDoorSubG
namespace Go.Proofs.YtpdnlojennhmpaaGreatDoor
set_option linter.unusedVariables false
open Go.RowKit
/-- A day's text. -/
def dyS (k m : Nat) (d : Int) : ByteArray := dcS (1970 + k) 4 ++ ⟨#[45]⟩ ++ dcS (1 + m) 2 ++ ⟨#[45]⟩ ++ dcS (d + 1).toNat 2
def IsDy (n : Int) (t : ByteArray) : Prop := ∃ (k m : Nat) (d : Int), Cal.At n k m d ∧ t = dyS k m d
/-- The text of the day with that number. -/
noncomputable def dateS (n : Int) : ByteArray := open Classical in if h : ∃ t, IsDy n t then h.choose else ⟨#[]⟩
theorem dateS_is {n : Int} {k m : Nat} {d : Int} (h : Cal.At n k m d) : dateS n = dyS k m d := by
  have e : ∃ t, IsDy n t := ⟨_, k, m, d, h, rfl⟩
  unfold dateS
  rw [dif_pos e]
  obtain ⟨k', m', d', h', e'⟩ := e.choose_spec
  obtain ⟨rfl, rfl, rfl⟩ := Cal.At.unique h h'
  exact e'
set_option maxRecDepth 100000 in
set_option maxHeartbeats 2000000 in
theorem printDate_of (b : Int) (n : Int) (h0 : 0 ≤ b) (h1 : b < 18446744073709551616) (hn : b / 86400000000000 = n) (h2 : n < 84006) (w : World) (hP : Pow w) (hT : Tab w) :
    Calls Tryz.prog 11 #[.int .u64 b] w fun e w' => e = .returned (.string (dateS n)) ∧ Below w.heap.size w w' := by
  have n0 : 0 ≤ n := by omega
  have HP : Hid (Pow w) := hP
  have C : Hid _ := Civil_yes n w n0 h2 hT
  have wn : IntKind.i64.wrap n = n := by rw [IntKind.wrap_i64]; omega
  have wu : IntKind.u64.wrap n = n := by rw [IntKind.wrap_u64]; omega
  clear hP hT
  go_enter Tryz.func11, Tryz.ntmps11
  go_wp2_with fail
  refine Calls.mono C.out ?_
  rintro e w1 ⟨k, m, d, hA, hk, rfl, rfl⟩
  have R : Hid (dateS n = dyS k m d) := dateS_is hA
  have mb : m < 12 := hA.hm
  have db : 0 ≤ d ∧ d ≤ 30 := ⟨hA.lo, by have := hA.hi; have := Cal.dim_bd (1970 + (k : Int)) ((m : Int) + 1); omega⟩
  have Y : Hid (∀ w, Pow w → Calls Tryz.prog 24 #[.int .i64 (1970 + (k : Int)), .int .i64 4] w fun e w' => e = .returned (.string (dcS (1970 + k) 4)) ∧ Below w.heap.size w w') := fun w h => padded_of (1970 + k) 4 (by omega) (by omega) w h
  have M : Hid (∀ w, Pow w → Calls Tryz.prog 24 #[.int .i64 (1 + (m : Int)), .int .i64 2] w fun e w' => e = .returned (.string (dcS (1 + m) 2)) ∧ Below w.heap.size w w') := fun w h => padded_of (1 + m) 2 (by omega) (by omega) w h
  have D : Hid (∀ w, Pow w → Calls Tryz.prog 24 #[.int .i64 (d + 1), .int .i64 2] w fun e w' => e = .returned (.string (dcS (d + 1).toNat 2)) ∧ Below w.heap.size w w') := fun w h => by
    have := padded_of (d + 1).toNat 2 (by omega) (by omega) w h
    rwa [show (((d + 1).toNat : Nat) : Int) = d + 1 by omega] at this
  have sy : (dcS (1970 + k) 4).size ≤ 20 := by rw [dcS_size]; have := Lib.nDigits_le20 (1970 + k) (by omega); omega
  have sm : (dcS (1 + m) 2).size ≤ 20 := by rw [dcS_size]; have := Lib.nDigits_le20 (1 + m) (by omega); omega
  have sd : (dcS (d + 1).toNat 2).size ≤ 20 := by rw [dcS_size]; have := Lib.nDigits_le20 (d + 1).toNat (by omega); omega
  clear hA C
  unfold dyS at R
  generalize dcS (1970 + k) 4 = ty at *
  generalize dcS (1 + m) 2 = tm at *
  generalize dcS (d + 1).toNat 2 = td at *
  have B0 : Hid (Below w1.heap.size w1 w1) := Below.refl _ _
  go_wp2_with fail
  refine (Y.out _ (pow_below HP.out B0.out)).mono ?_
  rintro e w2 ⟨rfl, hb⟩
  have B2 : Hid (Below w1.heap.size w1 w2) := hb
  clear hb
  go_wp2_with fail
  refine (M.out _ (pow_below HP.out B2.out)).mono ?_
  rintro e w3 ⟨rfl, hb⟩
  have B3 : Hid (Below w1.heap.size w1 w3) := B2.out.trans (hb.mono B2.out.size)
  clear hb
  go_wp2_with fail
  refine (D.out _ (pow_below HP.out B3.out)).mono ?_
  rintro e w4 ⟨rfl, hb⟩
  have B5 : Hid (Below w1.heap.size w1 w4) := B3.out.trans (hb.mono B3.out.size)
  clear hb
  go_wp2
  go_ret
  exact ⟨congrArg (fun y => Ending.returned (Value.string y)) R.out.symm, B5.out⟩
end Go.Proofs.YtpdnlojennhmpaaGreatDoor
