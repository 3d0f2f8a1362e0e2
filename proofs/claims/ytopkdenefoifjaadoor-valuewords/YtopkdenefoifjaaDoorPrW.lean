/- What value.Print answers of a row of bits and a float, and of every value; no statement of the seat is proved here. -/
import Derived.Test.YtopkdenefoifjaaDoorPrV
namespace Go.Proofs.YtopkdenefoifjaaDoor
set_option linter.unusedVariables false
open Go.RowKit
section
variable (k b : Int) (s : ByteArray) (w : World)
abbrev HexT (d : ByteArray) : Prop := ∀ w, Tz4 w → Calls Tryd.prog 13 #[.int .u64 b] w fun e w' => e = .returned (.string d) ∧ Below w.heap.size w w'
set_option maxRecDepth 100000 in
set_option maxHeartbeats 2000000 in
theorem pr_row0 (d : ByteArray) (hd : d.size ≤ 16) (hz : Tz4 w) (hk : 10 ≤ k ∧ k ≤ 13) (M : Hid (MayT k b s true)) (H : Hid (HexT b d)) :
    Calls Tryd.prog 8 #[V k b s] w fun e w' => e = .returned (.string (h16 ++ d)) ∧ Below w.heap.size w w' := by
  have f1 : (k == 1) = false := by simp; omega
  have f19 : (k == 19) = false := by simp; omega
  have f18 : (k == 18) = false := by simp; omega
  have HZ : Hid (Tz4 w) := hz
  clear hz
  go_enter Tryd.func8, Tryd.ntmps8
  go_wp2_with fail
  refine (M.out _).mono ?_
  rintro e w1 ⟨rfl, hb⟩
  have B : Hid (Below w.heap.size w w1) := ((Below.refl _ _).alloc (Nat.le_refl _) _).trans (hb.mono (by simp))
  have A0 : Hid _ := (Lies.new w k b s _).next hb
  have Z1 : Hid (Tz4 w1) := tz4_below HZ.out B.out
  obtain ⟨l0, c00, c01, c02⟩ := A0.out
  clear hb
  go_wp2_with fail
  refine (isRow_is k _ true (by omega) (by symm; simp; omega)).mono ?_
  rintro e w2 ⟨rfl, rfl⟩
  go_wp2_with fail
  refine (H.out _ Z1.out).mono ?_
  rintro e w3 ⟨rfl, hb⟩
  have B3 : Hid (Below w.heap.size w w3) := B.out.trans (hb.mono B.out.size)
  clear hb
  go_wp2
  go_ret
  exact ⟨rfl, B3.out⟩
set_option maxRecDepth 100000 in
set_option maxHeartbeats 2000000 in
theorem pr_real0 (d : ByteArray) (hd : d.size ≤ 16) (hz : Tz4 w) (M : Hid (MayT 18 b s true)) (H : Hid (HexT b d)) :
    Calls Tryd.prog 8 #[V 18 b s] w fun e w' => e = .returned (.string (h16 ++ nghts (16 - d.size) ++ d)) ∧ Below w.heap.size w w' := by
  have R : Hid (∀ w, Calls Tryd.prog 14 #[.string ⟨#[48]⟩, .int .i64 (16 - (d.size : Int))] w fun e w' => e = .returned (.string (nghts (16 - d.size))) ∧ Below w.heap.size w w') := fun w => by
    have := Repeat_of (16 - d.size) (by omega) w
    rwa [show ((16 - d.size : Nat) : Int) = 16 - (d.size : Int) by omega] at this
  have ns := nghts_size (16 - d.size)
  generalize nghts (16 - d.size) = q at *
  have HZ : Hid (Tz4 w) := hz
  clear hz
  go_enter Tryd.func8, Tryd.ntmps8
  go_wp2_with fail
  refine (M.out _).mono ?_
  rintro e w1 ⟨rfl, hb⟩
  have B : Hid (Below w.heap.size w w1) := ((Below.refl _ _).alloc (Nat.le_refl _) _).trans (hb.mono (by simp))
  have A0 : Hid _ := (Lies.new w 18 b s _).next hb
  have Z1 : Hid (Tz4 w1) := tz4_below HZ.out B.out
  obtain ⟨l0, c00, c01, c02⟩ := A0.out
  clear hb
  go_wp2_with fail
  refine (H.out _ Z1.out).mono ?_
  rintro e w3 ⟨rfl, hb⟩
  have B3 : Hid (Below w.heap.size w w3) := B.out.trans (hb.mono B.out.size)
  clear hb
  go_wp2_with fail
  refine (R.out _).mono ?_
  rintro e w4 ⟨rfl, hb⟩
  have B4 : Hid (Below w.heap.size w w4) := B3.out.trans (hb.mono B3.out.size)
  clear hb
  go_wp2
  go_ret
  exact ⟨rfl, B4.out⟩
theorem hexT_of (h0 : 0 ≤ b) (h1 : b < 18446744073709551616) : HexT b ⟨(hexLow (hexDig b.toNat).length b.toNat).toArray⟩ := fun w hz => by
  have := hexDigits_of b.toNat (by omega) w hz
  rwa [show ((b.toNat : Nat) : Int) = b by omega] at this
theorem hexS_1 (u : Nat) : hexS u 1 = ⟨(hexLow (hexDig u).length u).toArray⟩ := by
  unfold hexS
  rw [show max 1 (hexDig u).length = (hexDig u).length by have := (hexDig_len u).1; omega]
theorem may_kinds (m : may3 k b s = true) (hk : 0 ≤ k ∧ k < 256) : 1 ≤ k ∧ k ≤ 19 := by
  rcases kinds k hk with rfl | rfl | rfl | rfl | rfl | rfl | rfl | rfl | rfl | rfl | rfl | rfl | rfl | rfl | rfl | rfl | rfl | rfl | rfl | rfl | hk2
  all_goals first | omega | (exfalso; revert m; simp [may3, mayW]; done) | skip
  exfalso
  revert m
  have n : ∀ j : Int, j ≤ 19 → ¬ k = j := fun j hj e => by omega
  simp [may3, mayW, n 19 (by omega), n 1 (by omega), n 2 (by omega), n 3 (by omega), n 4 (by omega), n 5 (by omega), n 6 (by omega), n 7 (by omega), n 8 (by omega), n 9 (by omega), n 10 (by omega), n 11 (by omega), n 12 (by omega), n 13 (by omega), n 14 (by omega), n 15 (by omega), n 16 (by omega), n 17 (by omega), n 18 (by omega)]
theorem PrintV_of (hP : Pow w) (hz : Tz4 w) (h0 : 0 ≤ b) (h1 : b < 18446744073709551616) (hk : 0 ≤ k ∧ k < 256) (hs : s.size ≤ maxLen) :
    Calls Tryd.prog 8 #[V k b s] w fun e w' => e = .returned (.string (prS k b s)) ∧ Below w.heap.size w w' := by
  have M : Hid (MayT k b s (may3 k b s)) := fun w => May_of k b s w h0 h1 hk hs
  unfold prS
  cases m : may3 k b s with
  | false => rw [m] at M; rw [if_pos rfl]; exact pr_no k b s w M
  | true =>
    have K := may_kinds k b s m hk
    rw [m] at M
    rw [if_neg (by simp)]
    by_cases k19 : k = 19
    · subst k19; rw [if_pos rfl]; exact pr_text b s w M
    rw [if_neg k19]
    by_cases k1 : k = 1
    · subst k1; rw [if_pos rfl]; exact pr_bool b s w M
    rw [if_neg k1]
    have u64 : b.toNat < 18446744073709551616 := by omega
    have ds : (⟨(hexLow (hexDig b.toNat).length b.toNat).toArray⟩ : ByteArray).size = (hexDig b.toNat).length := by
      show (hexLow _ _).toArray.size = _; simp [hexLow_len]
    have dl := hexDig_le b.toNat u64
    by_cases k18 : k = 18
    · subst k18; rw [if_pos rfl]
      have := pr_real0 b s w _ (by omega) hz M (hexT_of b h0 h1)
      rwa [ds, ByteArray.append_assoc, hex_pad b.toNat u64] at this
    rw [if_neg k18]
    by_cases kr : 10 ≤ k ∧ k ≤ 13
    · rw [if_pos kr, hexS_1]; exact pr_row0 k b s w _ (by omega) hz kr M (hexT_of b h0 h1)
    · rw [if_neg kr]; exact pr_num k b s w hP h0 h1 (by omega) M
end
end Go.Proofs.YtopkdenefoifjaaDoor
