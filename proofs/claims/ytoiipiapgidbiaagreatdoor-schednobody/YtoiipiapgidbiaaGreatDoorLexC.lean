/- Names on both sides, and the small functions of addresses; no statement of the seat is proved here. -/
import Derived.Test.YtoiipiapgidbiaaGreatDoorLexB
namespace Go.Proofs.YtoiipiapgidbiaaGreatDoor
set_option linter.unusedVariables false
open Go.RowKit
/-- A text's byte; behind its end 0. -/
def byt (s : ByteArray) (i : Nat) : Int := ((s.data.toList.getD i 0).toNat : Int)
theorem byt_in (s : ByteArray) (i : Nat) (h : i < s.size) : byt s i = (s[i].toNat : Int) := by
  unfold byt
  rw [List.getD_eq_getElem?_getD, show s.data.toList[i]? = some s[i] by rw [Array.getElem?_toList, Array.getElem?_eq_getElem h]; rfl]
  rfl
theorem byt_out (s : ByteArray) (i : Nat) (h : s.size ≤ i) : byt s i = 0 := by
  unfold byt
  rw [List.getD_eq_getElem?_getD, List.getElem?_eq_none (by simpa using h)]
  rfl
theorem byt_bounds (s : ByteArray) (i : Nat) : 0 ≤ byt s i ∧ byt s i ≤ 255 := by
  have h : (s.data.toList.getD i 0).toNat < 256 := UInt8.toNat_lt _
  unfold byt
  omega
theorem isLetter_of (c : Int) (w : World) : Calls Tryz.prog 116 #[.int .u8 c] w fun e w' => e = .returned (.bool (letB c)) ∧ w' = w := by
  generalize hr : letB c = r
  have R : Hid (letB c = r) := hr
  clear hr
  rcases bytes6 c with h | ⟨h, h'⟩ | ⟨h, h'⟩ | ⟨h, h'⟩ | ⟨h, h'⟩ | rfl | rfl | ⟨h, h'⟩ | h
  all_goals
    go_enter Tryz.func116, Tryz.ntmps116
    go_wp2
    go_ret
    refine ⟨ret_bool ?_, rfl⟩
    rw [← R.out]
    go_light
    unfold letB
    rw [Bool.eq_iff_iff]
    simp only [Bool.or_eq_true, decide_eq_true_eq, Bool.false_eq_true, true_iff, false_iff]
    omega
/-- Is a text a name? -/
def nameB (s : ByteArray) : Bool := decide (1 ≤ s.size ∧ s.size ≤ 24) && letB (byt s 0) && decide (runL namB s.data.toList = s.size)
set_option maxHeartbeats 2000000 in
theorem IsName_of (s : ByteArray) (w : World) (hs : s.size ≤ maxLen) : Calls Tryz.prog 88 #[.string s] w fun e w' => e = .returned (.bool (nameB s)) ∧ w' = w := by
  generalize hn : nameB s = r
  have N : Hid (nameB s = r) := hn
  clear hn
  go_enter Tryz.func88, Tryz.ntmps88
  by_cases h1 : s.size ≤ 24
  · by_cases h0 : 0 < s.size
    · have hb : Hid (byt s 0 = s[0].toNat) := byt_in s 0 h0
      cases c : letB (s[0].toNat : Int)
      · have C : Hid (letB (s[0].toNat : Int) = false) := c
        clear c
        go_wp2_with (first
          | (go_at_call 116; refine (isLetter_of _ _).mono ?_; rintro e w1 ⟨rfl, rfl⟩; rw [C.out])
          | (go_at_call 117; refine (runEnd_name s 0 _ hs (Nat.zero_le _)).mono ?_; rintro e w1 ⟨rfl, rfl⟩))
        go_ret
        refine ⟨ret_bool ?_, rfl⟩
        rw [← N.out, nameB, hb.out, C.out]
        simp
      · have C : Hid (letB (s[0].toNat : Int) = true) := c
        clear c
        go_wp2_with (first
          | (go_at_call 116; refine (isLetter_of _ _).mono ?_; rintro e w1 ⟨rfl, rfl⟩; rw [C.out])
          | (go_at_call 117; refine (runEnd_name s 0 _ hs (Nat.zero_le _)).mono ?_; rintro e w1 ⟨rfl, rfl⟩))
        go_ret
        refine ⟨ret_bool ?_, rfl⟩
        rw [← N.out, nameB, hb.out, C.out]
        go_light
        rw [decide_eq_true (show 1 ≤ s.size ∧ s.size ≤ 24 from ⟨h0, h1⟩), Bool.eq_iff_iff]
        simp
        try omega
    · go_wp2
      go_ret
      refine ⟨ret_bool ?_, rfl⟩
      rw [← N.out, nameB]
      simp [show ¬ 1 ≤ s.size by omega]
  · go_wp2
    go_ret
    refine ⟨ret_bool ?_, rfl⟩
    rw [← N.out, nameB]
    simp [show ¬ s.size ≤ 24 by omega]
end Go.Proofs.YtoiipiapgidbiaaGreatDoor
