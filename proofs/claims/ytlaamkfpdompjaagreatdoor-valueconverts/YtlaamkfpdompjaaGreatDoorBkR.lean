/- What the document's Print answers of an integer; no statement of the seat is proved here. -/
import Derived.Test.YtlaamkfpdompjaaGreatDoorBkC
import Derived.Test.YtlaamkfpdompjaaGreatDoorBkQ
import Derived.Test.YtlaamkfpdompjaaGreatDoorIt
import Derived.Lib.ItoaMem
namespace Go.Proofs.YtlaamkfpdompjaaGreatDoor
set_option linter.unusedVariables false
open Go.RowKit
theorem grow_below (w : World) (k : Nat) (os : Array Obj) : Below w.heap.size w (Go.Sort.grow (w.drewN k) os) :=
  ⟨rfl, rfl, rfl, by show w.heap.size ≤ (Go.Sort.grow (w.drewN k) os).heap.size; simp, fun j hj => Go.Sort.heap_grow_old (w.drewN k) os hj⟩
theorem itoa_size (n : Int) (h0 : -18446744073709551616 < n) (h1 : n < 18446744073709551616) : (⟨(Lib.itoa n).toArray⟩ : ByteArray).size ≤ 21 := by
  have e : (⟨(Lib.itoa n).toArray⟩ : ByteArray).size = (Lib.itoa n).length := by simp [ByteArray.size]
  rw [e]
  have d : ∀ u : Nat, u < 18446744073709551616 → (Lib.decDigits u).length ≤ 20 := by
    intro u hu
    have := decS_size u hu
    have e : (decS u).size = (Lib.decDigits u).length := by unfold decS; simp [ByteArray.size]
    omega
  unfold Lib.itoa
  split
  · have := d n.natAbs (by omega)
    simp
    omega
  · have := d n.toNat (by omega)
    omega
section
variable (k b : Int) (w : World)
set_option maxRecDepth 100000 in
set_option maxHeartbeats 2000000 in
theorem PrintR_of (hP : Pow w) (h0 : 0 ≤ b) (h1 : b < 18446744073709551616) (hk : 2 ≤ k ∧ k ≤ 9) (m : may3 k b E0 = true) :
    Calls Tryz.prog 47 #[V k b E0] w fun e w' => (∃ t, e = .returned (.string t) ∧ t.size ≤ 21) ∧ Below w.heap.size w w' := by
  have M : Hid (∀ w, Calls Tryz.prog 15 #[V k b E0] w fun e w' => e = .returned (.bool true) ∧ Below w.heap.size w w') := fun w => by
    have := MayR_of k b E0 w h0 h1 (by omega) (Nat.zero_le _)
    rwa [m] at this
  clear m
  have f1 : (k == 1) = false := by simp; omega
  have f19 : (k == 19) = false := by simp; omega
  have f18 : (k == 18) = false := by simp; omega
  have HP : Hid (Pow w) := hP
  clear hP
  go_enter Tryz.func47, Tryz.ntmps47
  go_wp2_with fail
  refine (M.out _).mono ?_
  rintro e w1 ⟨rfl, hb⟩
  have B : Hid (Below w.heap.size w w1) := ((Below.refl _ _).alloc (Nat.le_refl _) _).trans (hb.mono (by simp))
  have A0 : Hid _ := (Lies.new w k b E0 _).next hb
  have P1 : Hid (Pow w1) := pow_below HP.out B.out
  obtain ⟨l0, c00, c01, c02⟩ := A0.out
  clear hb
  by_cases u : 6 ≤ k
  · have F : Hid (∀ w, Pow w → Calls Tryz.prog 62 #[.int .u64 b, .int .i64 10] w fun e w' => e = .returned (.string (decS b.toNat)) ∧ Below w.heap.size w w') := fun w h => by
      have := FormatUint_of b.toNat (by omega) w h
      rwa [show ((b.toNat : Nat) : Int) = b by omega] at this
    have S := decS_size b.toNat (by omega)
    generalize decS b.toNat = t at *
    go_wp2_with (first
      | (go_at_call 45; refine (RowR_is k _ false (by omega) (by symm; simp; omega)).mono ?_; rintro e w2 ⟨rfl, rfl⟩)
      | (go_at_call 60; refine (UnsignedR_is k _ true (by omega) (by symm; simp; omega)).mono ?_; rintro e w2 ⟨rfl, rfl⟩)
      | (go_at_call 62; refine (F.out _ P1.out).mono ?_; rintro e w4 ⟨rfl, hb4⟩))
    go_ret
    exact ⟨⟨t, rfl, by omega⟩, B.out.trans (hb4.mono B.out.size)⟩
  · have I : Hid (∀ w, Pow w → Calls Tryz.prog 63 #[.int .i64 (wrap64 b)] w fun e w' => e = .returned (.string ⟨(Lib.itoa (wrap64 b)).toArray⟩) ∧ Below w.heap.size w w') := fun w h => by
      refine (Tryz.strconv_Itoa (wrap64 b) (by unfold wrap64; omega) (by unfold wrap64; omega) w h).mono ?_
      rintro e w' ⟨rfl, k, os, rfl⟩
      exact ⟨rfl, grow_below _ _ _⟩
    have S := itoa_size (wrap64 b) (by unfold wrap64; omega) (by unfold wrap64; omega)
    generalize (⟨(Lib.itoa (wrap64 b)).toArray⟩ : ByteArray) = t at *
    go_wp2_with (first
      | (go_at_call 45; refine (RowR_is k _ false (by omega) (by symm; simp; omega)).mono ?_; rintro e w2 ⟨rfl, rfl⟩)
      | (go_at_call 60; refine (UnsignedR_is k _ false (by omega) (by symm; simp; omega)).mono ?_; rintro e w2 ⟨rfl, rfl⟩)
      | (go_at_call 63; refine (I.out _ P1.out).mono ?_; rintro e w4 ⟨rfl, hb4⟩))
    go_ret
    exact ⟨⟨t, rfl, by omega⟩, B.out.trans (hb4.mono B.out.size)⟩
end
end Go.Proofs.YtlaamkfpdompjaaGreatDoor
