/- Names on both sides, and the small functions of addresses; no statement of the seat is proved here. -/
import Derived.Test.YtkcdpddbhdogfaaLexB
namespace Go.Proofs.Ytkcdpddbhdogfaa
set_option linter.unusedVariables false
open Go.RowKit
/-- A text's byte; behind its end 0. -/
def byt (s : ByteArray) (i : Nat) : Int := ((s.data.toList.getD i 0).toNat : Int)
theorem byt_in (s : ByteArray) (i : Nat) (h : i < s.size) : byt s i = (s[i].toNat : Int) := by
  unfold byt
  rw [List.getD_eq_getElem?_getD, show s.data.toList[i]? = some s[i] by rw [Array.getElem?_toList, Array.getElem?_eq_getElem h]; rfl]
  rfl
theorem byt_out (s : ByteArray) (i : Nat) (h : s.size ≤ i) : byt s i = 0 := by
  unfold byt
  rw [List.getD_eq_getElem?_getD, List.getElem?_eq_none (by simpa using h)]
  rfl
theorem byt_bounds (s : ByteArray) (i : Nat) : 0 ≤ byt s i ∧ byt s i ≤ 255 := by
  have h : (s.data.toList.getD i 0).toNat < 256 := UInt8.toNat_lt _
  unfold byt
  omega
theorem isLetter_of (c : Int) (w : World) : Calls Try.prog 13 #[.int .u8 c] w fun e w' => e = .returned (.bool (letB c)) ∧ w' = w := by
  generalize hr : letB c = r
  have R : Hid (letB c = r) := hr
  clear hr
  rcases bytes6 c with h | ⟨h, h'⟩ | ⟨h, h'⟩ | ⟨h, h'⟩ | ⟨h, h'⟩ | rfl | rfl | ⟨h, h'⟩ | h
  all_goals
    go_enter Try.func13, Try.ntmps13
    go_wp2
    go_ret
    refine ⟨ret_bool ?_, rfl⟩
    rw [← R.out]
    go_light
    unfold letB
    rw [Bool.eq_iff_iff]
    simp only [Bool.or_eq_true, decide_eq_true_eq, Bool.false_eq_true, true_iff, false_iff]
    omega
theorem digitR_of (c : Int) (w : World) : Calls Try.prog 22 #[.int .u8 c] w fun e w' => e = .returned (.bool (digB c)) ∧ w' = w := by
  go_enter Try.func22, Try.ntmps22
  go_wp2
  all_goals
    go_ret
    refine ⟨ret_bool ?_, rfl⟩
    unfold digB
    rw [Bool.eq_iff_iff]
    simp
    omega
set_option maxHeartbeats 1000000 in
theorem innerR_of (c : Int) (w : World) : Calls Try.prog 17 #[.int .u8 c] w fun e w' => e = .returned (.bool (namB c)) ∧ w' = w := by
  generalize hl : letB c = l
  generalize hd : digB c = d
  have HL : Hid (letB c = l) := hl
  have HD : Hid (digB c = d) := hd
  clear hl hd
  have N : Hid (namB c = (l || d || decide (c = 95))) := by show _ = _; unfold namB; rw [HL.out, HD.out]
  go_enter Try.func17, Try.ntmps17
  cases l
  · cases d
    · go_wp2_with (first
        | (go_at_call 16; refine (letterR_of _ _).mono ?_; rintro e w1 ⟨rfl, rfl⟩; rw [HL.out])
        | (go_at_call 22; refine (digitR_of _ _).mono ?_; rintro e w1 ⟨rfl, rfl⟩; rw [HD.out]))
      go_ret
      refine ⟨ret_bool ?_, rfl⟩
      rw [N.out]
      by_cases h : c = 95 <;> simp [h]
    · go_wp2_with (first
        | (go_at_call 16; refine (letterR_of _ _).mono ?_; rintro e w1 ⟨rfl, rfl⟩; rw [HL.out])
        | (go_at_call 22; refine (digitR_of _ _).mono ?_; rintro e w1 ⟨rfl, rfl⟩; rw [HD.out]))
      go_ret
      refine ⟨ret_bool ?_, rfl⟩
      rw [N.out]
      rfl
  · go_wp2_with (first
        | (go_at_call 16; refine (letterR_of _ _).mono ?_; rintro e w1 ⟨rfl, rfl⟩; rw [HL.out])
        | (go_at_call 22; refine (digitR_of _ _).mono ?_; rintro e w1 ⟨rfl, rfl⟩; rw [HD.out]))
    go_ret
    refine ⟨ret_bool ?_, rfl⟩
    rw [N.out]
    rfl
/-- Is a text a name? -/
def nameB (s : ByteArray) : Bool := decide (1 ≤ s.size ∧ s.size ≤ 24) && letB (byt s 0) && decide (runL namB s.data.toList = s.size)
set_option maxHeartbeats 2000000 in
theorem IsName_of (s : ByteArray) (w : World) (hs : s.size ≤ maxLen) : Calls Try.prog 6 #[.string s] w fun e w' => e = .returned (.bool (nameB s)) ∧ w' = w := by
  generalize hn : nameB s = r
  have N : Hid (nameB s = r) := hn
  clear hn
  go_enter Try.func6, Try.ntmps6
  by_cases h1 : s.size ≤ 24
  · by_cases h0 : 0 < s.size
    · have hb : Hid (byt s 0 = s[0].toNat) := byt_in s 0 h0
      cases c : letB (s[0].toNat : Int)
      · have C : Hid (letB (s[0].toNat : Int) = false) := c
        clear c
        go_wp2_with (first
          | (go_at_call 13; refine (isLetter_of _ _).mono ?_; rintro e w1 ⟨rfl, rfl⟩; rw [C.out])
          | (go_at_call 14; refine (runEnd_name s 0 _ hs (Nat.zero_le _)).mono ?_; rintro e w1 ⟨rfl, rfl⟩))
        go_ret
        refine ⟨ret_bool ?_, rfl⟩
        rw [← N.out, nameB, hb.out, C.out]
        simp
      · have C : Hid (letB (s[0].toNat : Int) = true) := c
        clear c
        go_wp2_with (first
          | (go_at_call 13; refine (isLetter_of _ _).mono ?_; rintro e w1 ⟨rfl, rfl⟩; rw [C.out])
          | (go_at_call 14; refine (runEnd_name s 0 _ hs (Nat.zero_le _)).mono ?_; rintro e w1 ⟨rfl, rfl⟩))
        go_ret
        refine ⟨ret_bool ?_, rfl⟩
        rw [← N.out, nameB, hb.out, C.out]
        go_light
        rw [decide_eq_true (show 1 ≤ s.size ∧ s.size ≤ 24 from ⟨h0, h1⟩), Bool.eq_iff_iff]
        simp
        try omega
    · go_wp2
      go_ret
      refine ⟨ret_bool ?_, rfl⟩
      rw [← N.out, nameB]
      simp [show ¬ 1 ≤ s.size by omega]
  · go_wp2
    go_ret
    refine ⟨ret_bool ?_, rfl⟩
    rw [← N.out, nameB]
    simp [show ¬ s.size ≤ 24 by omega]
set_option maxHeartbeats 2000000 in
theorem IsNameR_of (s : ByteArray) (w : World) (hs : s.size ≤ maxLen) : Calls Try.prog 7 #[.string s] w fun e w' => e = .returned (.bool (nameB s)) ∧ w' = w := by
  generalize hn : nameB s = r
  have N : Hid (nameB s = r) := hn
  clear hn
  go_enter Try.func7, Try.ntmps7
  by_cases h0 : 0 < s.size
  · by_cases h1 : s.size ≤ 24
    · have hb : Hid (byt s 0 = s[0].toNat) := byt_in s 0 h0
      cases c : letB (s[0].toNat : Int)
      · have C : Hid (letB (s[0].toNat : Int) = false) := c
        clear c
        go_wp2_with (go_at_call 16; refine (letterR_of _ _).mono ?_; rintro e w1 ⟨rfl, rfl⟩; rw [C.out])
        go_ret
        refine ⟨ret_bool ?_, rfl⟩
        rw [← N.out, nameB, hb.out, C.out]
        simp
      · have C : Hid (letB (s[0].toNat : Int) = true) := c
        clear c
        go_wp2_with (first | (go_at_call 16; refine (letterR_of _ _).mono ?_; rintro e w1 ⟨rfl, rfl⟩; rw [C.out]) | fail)
        go_loop [3] (fun v => ∃ k : Nat, k ≤ s.size ∧ v = .int .i64 k ∧ Hid (runL namB s.data.toList = k + runL namB (s.data.toList.drop k))) (fun v => s.size - (intOf v).toNat)
        case atStart => exact ⟨0, Nat.zero_le _, rfl, by show _ = _; simp⟩
        case round =>
          obtain ⟨k, h2, rfl, H⟩ := hrel
          by_cases hlt : k < s.size
          · have HD : Hid _ := runL_drop namB s k hlt
            cases c : namB (s[k].toNat : Int)
            · have CN : Hid (namB (s[k].toNat : Int) = false) := c
              clear c
              go_wp2_with (go_at_call 17; refine (innerR_of _ _).mono ?_; rintro e w1 ⟨rfl, rfl⟩; rw [CN.out])
              go_ret
              refine ⟨ret_bool ?_, rfl⟩
              have a := H.out
              have b := HD.out
              rw [CN.out] at b
              simp only [Bool.false_eq_true, if_false] at b
              rw [← N.out, nameB, decide_eq_false (show ¬ runL namB s.data.toList = s.size by omega)]
              simp
            · have CN : Hid (namB (s[k].toNat : Int) = true) := c
              clear c
              go_wp2_with (go_at_call 17; refine (innerR_of _ _).mono ?_; rintro e w1 ⟨rfl, rfl⟩; rw [CN.out])
              go_round
              case rel =>
                refine ⟨k + 1, by omega, by go_num, ?_⟩
                have a := H.out
                have b := HD.out
                rw [CN.out] at b
                simp only [if_true] at b
                show _ = _
                omega
              case measure => simp [intOf]; omega
          · go_wp2
            go_ret
            refine ⟨ret_bool ?_, rfl⟩
            have a := H.out
            rw [show s.data.toList.drop k = [] from List.drop_eq_nil_of_le (by simp; omega)] at a
            simp only [runL] at a
            rw [← N.out, nameB, hb.out, C.out, decide_eq_true (show 1 ≤ s.size ∧ s.size ≤ 24 from ⟨h0, h1⟩), decide_eq_true (show runL namB s.data.toList = s.size by omega)]
            rfl
    · go_wp2
      go_ret
      refine ⟨ret_bool ?_, rfl⟩
      rw [← N.out, nameB]
      simp [show ¬ s.size ≤ 24 by omega]
  · go_wp2
    go_ret
    refine ⟨ret_bool ?_, rfl⟩
    rw [← N.out, nameB]
    simp [show ¬ 1 ≤ s.size by omega]
end Go.Proofs.Ytkcdpddbhdogfaa
