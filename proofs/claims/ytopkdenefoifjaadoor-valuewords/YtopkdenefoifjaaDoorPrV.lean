/- What value.Print answers of every value; no statement of the seat is proved here. -/
import Derived.Test.YtopkdenefoifjaaDoorHexV
import Derived.Test.YtopkdenefoifjaaDoorCvC
namespace Go.Proofs.YtopkdenefoifjaaDoor
set_option linter.unusedVariables false
open Go.RowKit
/-- A number's text. -/
def pnS (n : Int) : ByteArray := if n < 0 then ⟨#[45]⟩ ++ decS n.natAbs else decS n.natAbs
theorem pnS_size (n : Int) (h0 : -18446744073709551616 < n) (h1 : n < 18446744073709551616) : (pnS n).size ≤ 21 := by
  have := decS_size n.natAbs (by omega)
  unfold pnS
  split
  · rw [ByteArray.size_append]; show 1 + _ ≤ 21; omega
  · omega
/-- 16#. -/
def h16 : ByteArray := ⟨#[49, 54, 35]⟩
/-- A value's text. -/
def prS (k b : Int) (s : ByteArray) : ByteArray :=
  if may3 k b s = false then E0
  else if k = 19 then s
  else if k = 1 then (if b = 1 then ⟨#[84, 82, 85, 69]⟩ else ⟨#[70, 65, 76, 83, 69]⟩)
  else if k = 18 then h16 ++ hexS b.toNat 16
  else if 10 ≤ k ∧ k ≤ 13 then h16 ++ hexS b.toNat 1
  else pnS (num k b)
theorem hex_pad (u : Nat) (h : u < 18446744073709551616) : nghts (16 - (hexDig u).length) ++ (⟨(hexLow (hexDig u).length u).toArray⟩ : ByteArray) = hexS u 16 := by
  have l := hexDig_le u h
  apply ByteArray.ext
  rw [ByteArray.data_append]
  unfold nghts hexS
  have e : max 16 (hexDig u).length = (hexDig u).length + (16 - (hexDig u).length) := by omega
  simp only [e]
  rw [hexLow_pad _ u (hexDig_len u).2.1]
  simp
set_option maxHeartbeats 1000000 in
theorem printNumber_ex (n : Int) (w : World) (hP : Pow w) (h0 : -18446744073709551616 < n) (h1 : n < 18446744073709551616) :
    Calls Tryd.prog 16 #[NB n] w fun e w' => e = .returned (.string (pnS n)) ∧ Below w.heap.size w w' := by
  have hu : n.natAbs < 18446744073709551616 := by omega
  have F : Hid (∀ o, Calls Tryd.prog 22 #[.int .u64 (n.natAbs : Nat), .int .i64 10] (w.alloc o) fun e w' => e = .returned (.string (decS n.natAbs)) ∧ Below (w.alloc o).heap.size (w.alloc o) w') :=
    fun o => FormatUint_of n.natAbs hu _ (pow_below hP ((Below.refl _ _).alloc (Nat.le_refl _) o))
  have S := decS_size n.natAbs hu
  clear hP
  unfold pnS
  by_cases hn : n < 0
  · rw [NB_raw_neg hn, if_pos hn]
    generalize decS n.natAbs = t at *
    go_enter Tryd.func16, Tryd.ntmps16
    go_wp2_with (go_at_call 22; refine (F.out _).mono ?_; rintro e w' ⟨rfl, hb⟩)
    go_ret
    exact ⟨rfl, ((Below.refl _ _).alloc (Nat.le_refl _) _).trans (hb.mono (by simp))⟩
  · rw [if_neg hn, NB_raw_pos (by omega)]
    have e : (n : Int) = (n.natAbs : Int) := by omega
    generalize hg : n.natAbs = u at *
    rw [e]
    generalize decS u = t at *
    go_enter Tryd.func16, Tryd.ntmps16
    go_wp2_with (go_at_call 22; refine (F.out _).mono ?_; rintro e w' ⟨rfl, hb⟩)
    go_ret
    exact ⟨rfl, ((Below.refl _ _).alloc (Nat.le_refl _) _).trans (hb.mono (by simp))⟩
section
variable (k b : Int) (s : ByteArray) (w : World)
abbrev MayT (p : Bool) : Prop := ∀ w, Calls Tryd.prog 12 #[V k b s] w fun e w' => e = .returned (.bool p) ∧ Below w.heap.size w w'
set_option maxRecDepth 100000 in
set_option maxHeartbeats 2000000 in
theorem pr_no (M : Hid (MayT k b s false)) : Calls Tryd.prog 8 #[V k b s] w fun e w' => e = .returned (.string E0) ∧ Below w.heap.size w w' := by
  go_enter Tryd.func8, Tryd.ntmps8
  go_wp2_with fail
  refine (M.out _).mono ?_
  rintro e w1 ⟨rfl, hb⟩
  have B : Hid (Below w.heap.size w w1) := ((Below.refl _ _).alloc (Nat.le_refl _) _).trans (hb.mono (by simp))
  clear hb
  go_wp2
  go_ret
  exact ⟨rfl, B.out⟩
set_option maxRecDepth 100000 in
set_option maxHeartbeats 2000000 in
theorem pr_bool (M : Hid (MayT 1 b s true)) : Calls Tryd.prog 8 #[V 1 b s] w fun e w' => e = .returned (.string (if b = 1 then ⟨#[84, 82, 85, 69]⟩ else ⟨#[70, 65, 76, 83, 69]⟩)) ∧ Below w.heap.size w w' := by
  by_cases b1 : b = 1
  · subst b1
    rw [if_pos rfl]
    go_enter Tryd.func8, Tryd.ntmps8
    go_wp2_with fail
    refine (M.out _).mono ?_
    rintro e w1 ⟨rfl, hb⟩
    have B : Hid (Below w.heap.size w w1) := ((Below.refl _ _).alloc (Nat.le_refl _) _).trans (hb.mono (by simp))
    obtain ⟨l0, c00, c01, c02⟩ := (Lies.new w 1 1 s _).next hb
    clear hb
    go_wp2
    go_ret
    exact ⟨rfl, B.out⟩
  · rw [if_neg b1]
    have f1 : (b == 1) = false := by simpa using b1
    go_enter Tryd.func8, Tryd.ntmps8
    go_wp2_with fail
    refine (M.out _).mono ?_
    rintro e w1 ⟨rfl, hb⟩
    have B : Hid (Below w.heap.size w w1) := ((Below.refl _ _).alloc (Nat.le_refl _) _).trans (hb.mono (by simp))
    obtain ⟨l0, c00, c01, c02⟩ := (Lies.new w 1 b s _).next hb
    clear hb
    go_wp2
    go_ret
    exact ⟨rfl, B.out⟩
set_option maxRecDepth 100000 in
set_option maxHeartbeats 2000000 in
theorem pr_text (M : Hid (MayT 19 b s true)) : Calls Tryd.prog 8 #[V 19 b s] w fun e w' => e = .returned (.string s) ∧ Below w.heap.size w w' := by
  go_enter Tryd.func8, Tryd.ntmps8
  go_wp2_with fail
  refine (M.out _).mono ?_
  rintro e w1 ⟨rfl, hb⟩
  have B : Hid (Below w.heap.size w w1) := ((Below.refl _ _).alloc (Nat.le_refl _) _).trans (hb.mono (by simp))
  obtain ⟨l0, c00, c01, c02⟩ := (Lies.new w 19 b s _).next hb
  clear hb
  go_wp2
  go_ret
  exact ⟨rfl, B.out⟩
set_option maxRecDepth 100000 in
set_option maxHeartbeats 2000000 in
theorem pr_num (hP : Pow w) (h0 : 0 ≤ b) (h1 : b < 18446744073709551616) (hk : 2 ≤ k ∧ k ≤ 9 ∨ 14 ≤ k ∧ k ≤ 17) (M : Hid (MayT k b s true)) :
    Calls Tryd.prog 8 #[V k b s] w fun e w' => e = .returned (.string (pnS (num k b))) ∧ Below w.heap.size w w' := by
  have f1 : (k == 1) = false := by simp; omega
  have f19 : (k == 19) = false := by simp; omega
  have f18 : (k == 18) = false := by simp; omega
  have HP : Hid (Pow w) := hP
  have N1 : Hid (-18446744073709551616 < num k b ∧ num k b < 18446744073709551616) := by
    show _ ∧ _
    have := num_bd k b h0 h1
    omega
  clear hP
  go_enter Tryd.func8, Tryd.ntmps8
  go_wp2_with fail
  refine (M.out _).mono ?_
  rintro e w1 ⟨rfl, hb⟩
  have B : Hid (Below w.heap.size w w1) := ((Below.refl _ _).alloc (Nat.le_refl _) _).trans (hb.mono (by simp))
  have A0 : Hid _ := (Lies.new w k b s _).next hb
  obtain ⟨l0, c00, c01, c02⟩ := A0.out
  clear hb
  go_wp2_with fail
  refine (isRow_is k _ false (by omega) (by symm; simp; omega)).mono ?_
  rintro e w2 ⟨rfl, rfl⟩
  go_wp2_with fail
  refine (numberOf_of k b s _ h0 h1).mono ?_
  rintro e w3 ⟨rfl, hb⟩
  have B3 : Hid (Below w.heap.size w w3) := B.out.trans (hb.mono B.out.size)
  have P3 : Hid (Pow w3) := pow_below HP.out B3.out
  clear hb
  go_wp2_with fail
  refine (printNumber_ex (num k b) _ P3.out N1.out.1 N1.out.2).mono ?_
  rintro e w4 ⟨rfl, hb⟩
  go_wp2
  go_ret
  exact ⟨rfl, B3.out.trans (hb.mono B3.out.size)⟩
end
end Go.Proofs.YtopkdenefoifjaaDoor
