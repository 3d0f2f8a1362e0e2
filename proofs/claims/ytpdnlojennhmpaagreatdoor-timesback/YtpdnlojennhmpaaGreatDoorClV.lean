/- What times.printClock answers; no statement of the seat is proved here. -/
import Derived.Test.YtpdnlojennhmpaaGreatDoorPadV
import Derived.Test.YtpdnlojennhmpaaGreatDoorDecR
import Derived.Test.YtpdnlojennhmpaaGreatDoorTr
import Derived.Test.YtpdnlojennhmpaaGreatDoorSubG
import Derived.Lib.ItoaLen
namespace Go.Proofs.YtpdnlojennhmpaaGreatDoor
set_option linter.unusedVariables false
open Go.RowKit
def clH (N : Nat) : ByteArray := dcS (N / 3600000000000) 2 ++ ⟨#[58]⟩ ++ dcS (N % 3600000000000 / 60000000000) 2 ++ ⟨#[58]⟩ ++ dcS (N % 60000000000 / 1000000000) 2
/-- The digits behind the dot. -/
def clF (N : Nat) : ByteArray := ⟨(Lib.trimRightB (decLow 9 (N % 1000000000)) 48).toArray⟩
/-- A clock's text. -/
def clS (N : Nat) : ByteArray := if N % 1000000000 = 0 then clH N else clH N ++ ⟨#[46]⟩ ++ clF N
theorem dcS_20 (u d : Nat) (h : u < 18446744073709551616) (hd : d ≤ 20) : (dcS u d).size ≤ 20 := by
  rw [dcS_size]; have := Lib.nDigits_le20 u h; omega
theorem nDig_le : ∀ (i u : Nat), 1 ≤ i → u < 10 ^ i → Lib.nDigits u ≤ i := by
  intro i
  induction i with
  | zero => intro u h; omega
  | succ i ih =>
    intro u _ hu
    by_cases z : u < 10
    · rw [Lib.nDigits_small z]; omega
    · rw [Lib.nDigits_big z]
      have i1 : 1 ≤ i := by
        rcases i with _ | i
        · simp at hu; omega
        · omega
      have := ih (u / 10) i1 (by rw [Nat.pow_succ] at hu; omega)
      omega
theorem dcS_nine (u : Nat) (h : u < 1000000000) : dcS u 9 = ⟨(decLow 9 u).toArray⟩ := by
  unfold dcS
  have := nDig_le 9 u (by omega) (by omega)
  rw [show max 9 (Lib.nDigits u) = 9 by omega]
theorem trimR_len (l : List UInt8) (c : UInt8) : (Lib.trimRightB l c).length ≤ l.length := by
  unfold Lib.trimRightB
  rw [List.length_reverse]
  have := (List.dropWhile_sublist (p := (· == c)) (l := l.reverse)).length_le
  simpa using this
theorem clF_size (N : Nat) : (clF N).size ≤ 9 := by
  unfold clF
  show (Lib.trimRightB _ 48).toArray.size ≤ 9
  have := trimR_len (decLow 9 (N % 1000000000)) 48
  rw [decLow_len] at this
  simpa using this
set_option maxRecDepth 100000 in
set_option maxHeartbeats 2000000 in
theorem printClock_of (N : Nat) (h : N < 86400000000000) (w : World) (hP : Pow w) :
    Calls Tryz.prog 12 #[.int .u64 N] w fun e w' => e = .returned (.string (clS N)) ∧ Below w.heap.size w w' := by
  have wn : IntKind.i64.wrap (N : Int) = N := by rw [IntKind.wrap_i64]; omega
  have HP : Hid (Pow w) := hP
  clear hP
  have PH : Hid (∀ w, Pow w → Calls Tryz.prog 24 #[.int .i64 ((N : Int) / 3600000000000), .int .i64 2] w fun e w' => e = .returned (.string (dcS (N / 3600000000000) 2)) ∧ Below w.heap.size w w') := fun w h => padded_of (N / 3600000000000) 2 (by omega) (by omega) w h
  have PM : Hid (∀ w, Pow w → Calls Tryz.prog 24 #[.int .i64 ((N : Int) % 3600000000000 / 60000000000), .int .i64 2] w fun e w' => e = .returned (.string (dcS (N % 3600000000000 / 60000000000) 2)) ∧ Below w.heap.size w w') := fun w h => padded_of (N % 3600000000000 / 60000000000) 2 (by omega) (by omega) w h
  have PS : Hid (∀ w, Pow w → Calls Tryz.prog 24 #[.int .i64 ((N : Int) % 60000000000 / 1000000000), .int .i64 2] w fun e w' => e = .returned (.string (dcS (N % 60000000000 / 1000000000) 2)) ∧ Below w.heap.size w w') := fun w h => padded_of (N % 60000000000 / 1000000000) 2 (by omega) (by omega) w h
  have PF : Hid (∀ w, Pow w → Calls Tryz.prog 24 #[.int .i64 ((N : Int) % 1000000000), .int .i64 9] w fun e w' => e = .returned (.string ⟨(decLow 9 (N % 1000000000)).toArray⟩) ∧ Below w.heap.size w w') := fun w h => by
    have := padded_of (N % 1000000000) 9 (by omega) (by omega) w h
    rwa [dcS_nine _ (by omega)] at this
  have TR : Hid (∀ w, Calls Tryz.prog 25 #[.string ⟨(decLow 9 (N % 1000000000)).toArray⟩, .string ⟨#[48]⟩] w fun e w' => e = .returned (.string (clF N)) ∧ w' = w) := fun w => by
    have := Tryz.strings_TrimRight_one ⟨(decLow 9 (N % 1000000000)).toArray⟩ 48 (by decide) w (by show (decLow 9 (N % 1000000000)).toArray.size ≤ _; simp [decLow_len])
    simpa [clF] using this
  have s1 := dcS_20 (N / 3600000000000) 2 (by omega) (by omega)
  have s2 := dcS_20 (N % 3600000000000 / 60000000000) 2 (by omega) (by omega)
  have s3 := dcS_20 (N % 60000000000 / 1000000000) 2 (by omega) (by omega)
  have s4 := clF_size N
  have R : Hid (clS N = if N % 1000000000 = 0 then dcS (N / 3600000000000) 2 ++ ⟨#[58]⟩ ++ dcS (N % 3600000000000 / 60000000000) 2 ++ ⟨#[58]⟩ ++ dcS (N % 60000000000 / 1000000000) 2 else dcS (N / 3600000000000) 2 ++ ⟨#[58]⟩ ++ dcS (N % 3600000000000 / 60000000000) 2 ++ ⟨#[58]⟩ ++ dcS (N % 60000000000 / 1000000000) 2 ++ ⟨#[46]⟩ ++ clF N) := rfl
  generalize dcS (N / 3600000000000) 2 = t1 at *
  generalize dcS (N % 3600000000000 / 60000000000) 2 = t2 at *
  generalize dcS (N % 60000000000 / 1000000000) 2 = t3 at *
  generalize clF N = t4 at *
  generalize (⟨(decLow 9 (N % 1000000000)).toArray⟩ : ByteArray) = t5 at *
  go_enter Tryz.func12, Tryz.ntmps12
  go_wp2_with fail
  refine (PH.out _ HP.out).mono ?_
  rintro e w2 ⟨rfl, hb⟩
  have B2 : Hid (Below w.heap.size w w2) := hb
  clear hb
  go_wp2_with fail
  refine (PM.out _ (pow_below HP.out B2.out)).mono ?_
  rintro e w3 ⟨rfl, hb⟩
  have B3 : Hid (Below w.heap.size w w3) := B2.out.trans (hb.mono B2.out.size)
  clear hb
  go_wp2_with fail
  refine (PS.out _ (pow_below HP.out B3.out)).mono ?_
  rintro e w4 ⟨rfl, hb⟩
  have B4 : Hid (Below w.heap.size w w4) := B3.out.trans (hb.mono B3.out.size)
  clear hb
  by_cases f0 : N % 1000000000 = 0
  · rw [if_pos f0] at R
    have f1 : ((N : Int) % 1000000000 == 0) = true := by simp; omega
    go_wp2
    go_ret
    exact ⟨congrArg (fun y => Ending.returned (Value.string y)) R.out.symm, B4.out⟩
  · rw [if_neg f0] at R
    have f1 : ((N : Int) % 1000000000 == 0) = false := by simp; omega
    go_wp2_with fail
    refine (PF.out _ (pow_below HP.out B4.out)).mono ?_
    rintro e w5 ⟨rfl, hb⟩
    have B5 : Hid (Below w.heap.size w w5) := B4.out.trans (hb.mono B4.out.size)
    clear hb
    go_wp2_with fail
    refine (TR.out _).mono ?_
    rintro e w6 ⟨rfl, rfl⟩
    go_wp2
    go_ret
    exact ⟨congrArg (fun y => Ending.returned (Value.string y)) R.out.symm, B5.out⟩
end Go.Proofs.YtpdnlojennhmpaaGreatDoor
