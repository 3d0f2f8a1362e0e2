/- Addresses on the program's side; no statement of the seat is proved here. -/
import Derived.Test.YtoiipiapgidbiaaGreatDoorLexC
namespace Go.Proofs.YtoiipiapgidbiaaGreatDoor
set_option linter.unusedVariables false
open Go.RowKit
theorem byteAt_of (s : ByteArray) (i : Nat) (w : World) : Calls Tryz.prog 209 #[.string s, .int .i64 i] w fun e w' => e = .returned (.int .u8 (byt s i)) ∧ w' = w := by
  go_enter Tryz.func209, Tryz.ntmps209
  by_cases h : i < s.size
  · have hb : Hid (byt s i = s[i].toNat) := byt_in s i h
    go_wp2
    go_ret
    exact ⟨ret_int hb.out.symm, rfl⟩
  · have hb : Hid (byt s i = 0) := byt_out s i (by omega)
    go_wp2
    go_ret
    exact ⟨ret_int hb.out.symm, rfl⟩
/-- How many bits stand at a letter in capitals; 0: it is no such letter. -/
def bitN (c : Int) : Int := if c = 88 then 1 else if c = 66 then 8 else if c = 87 then 16 else if c = 68 then 32 else if c = 76 then 64 else 0
def areaB (c : Int) : Bool := decide (c = 73 ∨ c = 81 ∨ c = 77)
theorem bit6 (c : Int) : c = 88 ∨ c = 66 ∨ c = 87 ∨ c = 68 ∨ c = 76 ∨ (c ≠ 88 ∧ c ≠ 66 ∧ c ≠ 87 ∧ c ≠ 68 ∧ c ≠ 76) := by omega
theorem bitN_none (c : Int) (h : c ≠ 88 ∧ c ≠ 66 ∧ c ≠ 87 ∧ c ≠ 68 ∧ c ≠ 76) : bitN c = 0 := by
  unfold bitN
  rw [if_neg h.1, if_neg h.2.1, if_neg h.2.2.1, if_neg h.2.2.2.1, if_neg h.2.2.2.2]
set_option maxHeartbeats 1000000 in
theorem addressBits_of (c : Int) (h0 : 0 ≤ c) (h1 : c ≤ 255) (w : World) : Calls Tryz.prog 186 #[.int .u8 c] w fun e w' => e = .returned (.int .i64 (bitN (capI c))) ∧ w' = w := by
  generalize hd : capI c = d
  have D : Hid (capI c = d) := hd
  clear hd
  rcases bit6 d with rfl | rfl | rfl | rfl | rfl | h
  case inr.inr.inr.inr.inr =>
    have e1 : (d == 88) = false := by simp; omega
    have e2 : (d == 66) = false := by simp; omega
    have e3 : (d == 87) = false := by simp; omega
    have e4 : (d == 68) = false := by simp; omega
    have e5 : (d == 76) = false := by simp; omega
    go_enter Tryz.func186, Tryz.ntmps186
    go_wp2_with (go_at_call 211; refine (capital_of _ h0 h1 _).mono ?_; rintro e w1 ⟨rfl, rfl⟩; rw [D.out])
    go_ret
    exact ⟨ret_int (bitN_none d h).symm, rfl⟩
  all_goals
    go_enter Tryz.func186, Tryz.ntmps186
    go_wp2_with (go_at_call 211; refine (capital_of _ h0 h1 _).mono ?_; rintro e w1 ⟨rfl, rfl⟩; rw [D.out])
    go_ret
    exact ⟨ret_int rfl, rfl⟩
set_option maxHeartbeats 1000000 in
theorem isArea_of (c : Int) (h0 : 0 ≤ c) (h1 : c ≤ 255) (w : World) : Calls Tryz.prog 210 #[.int .u8 c] w fun e w' => e = .returned (.bool (areaB (capI c))) ∧ w' = w := by
  generalize hd : capI c = d
  have D : Hid (capI c = d) := hd
  clear hd
  by_cases e1 : d = 73
  · subst e1
    go_enter Tryz.func210, Tryz.ntmps210
    go_wp2_with (go_at_call 211; refine (capital_of _ h0 h1 _).mono ?_; rintro e w1 ⟨rfl, rfl⟩; rw [D.out])
    go_ret
    exact ⟨ret_bool rfl, rfl⟩
  · by_cases e2 : d = 81
    · subst e2
      go_enter Tryz.func210, Tryz.ntmps210
      go_wp2_with (go_at_call 211; refine (capital_of _ h0 h1 _).mono ?_; rintro e w1 ⟨rfl, rfl⟩; rw [D.out])
      go_ret
      exact ⟨ret_bool rfl, rfl⟩
    · have f1 : (d == 73) = false := by simp; omega
      have f2 : (d == 81) = false := by simp; omega
      go_enter Tryz.func210, Tryz.ntmps210
      go_wp2_with (go_at_call 211; refine (capital_of _ h0 h1 _).mono ?_; rintro e w1 ⟨rfl, rfl⟩; rw [D.out])
      go_ret
      refine ⟨ret_bool ?_, rfl⟩
      go_light
      unfold areaB
      rw [Bool.eq_iff_iff]
      simp [e1, e2]
/-- How long the number of an address is. -/
def digN (s : ByteArray) : Nat := runL digB (s.data.toList.drop 3)
/-- Does an address begin at the text's beginning, up to its number? -/
def headB (s : ByteArray) : Bool := decide (byt s 0 = 37) && areaB (capI (byt s 1)) && decide (bitN (capI (byt s 2)) ≠ 0) && decide (1 ≤ digN s ∧ digN s ≤ 4 ∧ ¬ (1 < digN s ∧ byt s 3 = 48))
/-- The place behind the address that a text begins with; -1: none does. -/
def adE (s : ByteArray) : Int :=
  if headB s then
    if 1 < bitN (capI (byt s 2)) then 3 + digN s
    else if byt s (3 + digN s) = 46 ∧ 48 ≤ byt s (4 + digN s) ∧ byt s (4 + digN s) ≤ 55 then 5 + digN s else -1
  else -1
theorem digN_le (s : ByteArray) (h : 3 ≤ s.size) : 3 + digN s ≤ s.size := by
  have := runL_le digB (s.data.toList.drop 3)
  unfold digN
  simp at this
  have e : s.data.size = s.size := rfl
  omega
theorem bit_size (s : ByteArray) (h : bitN (capI (byt s 2)) ≠ 0) : 3 ≤ s.size := by
  rcases Nat.lt_or_ge 2 s.size with q | q
  · omega
  · rw [byt_out s 2 q] at h
    exact absurd rfl h
theorem byteAt_z (s : ByteArray) (i : Int) (w : World) (h : 0 ≤ i) : Calls Tryz.prog 209 #[.string s, .int .i64 i] w fun e w' => e = .returned (.int .u8 (byt s i.toNat)) ∧ w' = w := by
  obtain ⟨n, rfl⟩ := Int.eq_ofNat_of_zero_le h
  exact byteAt_of s n w
theorem runEnd_digit_z (s : ByteArray) (i : Int) (w : World) (hs : s.size ≤ maxLen) (h0 : 0 ≤ i) (hi : i ≤ s.size) :
    Calls Tryz.prog 117 #[.string s, .int .i64 i, .func (.func 158) #[] #[]] w fun e w' => e = .returned (.int .i64 ((i.toNat + runL digB (s.data.toList.drop i.toNat) : Nat) : Int)) ∧ w' = w := by
  obtain ⟨n, rfl⟩ := Int.eq_ofNat_of_zero_le h0
  exact runEnd_digit s n w hs (by omega)
theorem adE_head (s : ByteArray) (h : headB s = false) : adE s = -1 := by
  unfold adE
  rw [h]
  rfl
/-- What is left behind the number. -/
def tailE (s : ByteArray) (d : Nat) : Int :=
  if 1 ≤ d ∧ d ≤ 4 ∧ ¬ (1 < d ∧ byt s 3 = 48) then
    if 1 < bitN (capI (byt s 2)) then 3 + d
    else if byt s (3 + d) = 46 ∧ 48 ≤ byt s (4 + d) ∧ byt s (4 + d) ≤ 55 then 5 + d else -1
  else -1
theorem adE_tail (s : ByteArray) (c0 : byt s 0 = 37) (c1 : areaB (capI (byt s 1)) = true) (c2 : ¬ bitN (capI (byt s 2)) = 0) : adE s = tailE s (digN s) := by
  unfold adE tailE headB
  rw [c0, c1, decide_eq_true c2]
  by_cases h : 1 ≤ digN s ∧ digN s ≤ 4 ∧ ¬ (1 < digN s ∧ byt s 3 = 48)
  · rw [if_pos h, decide_eq_true h]
    rfl
  · rw [if_neg h, decide_eq_false h]
    rfl
set_option maxHeartbeats 1000000 in
theorem addressEnd_in (s : ByteArray) (w : World) (hs : s.size ≤ maxLen) (c0 : byt s 0 = 37) (c1 : areaB (capI (byt s 1)) = true) (c2 : ¬ bitN (capI (byt s 2)) = 0) (r : Int) (R : Hid (adE s = r)) :
    Calls Tryz.prog 184 #[.string s, .int .i64 0] w fun e w' => e = .returned (.int .i64 r) ∧ w' = w := by
  have b1 := byt_bounds s 1
  have hz := bit_size s c2
  have hd := digN_le s hz
  have T : Hid (tailE s (digN s) = r) := by show _ = _; rw [← R.out, adE_tail s c0 c1 c2]
  clear R
  have hm : s.size ≤ 9223372036854775807 := hs
  have D : Hid (runL digB (s.data.toList.drop 3) = digN s) := rfl
  have B2 : Hid (byt s 2 = s[2].toNat) := byt_in s 2 (by omega)
  have b2 := byt_bounds s 2
  rw [B2.out] at c2 b2
  have C1 : Hid (areaB (capI (byt s 1)) = true) := c1
  clear c1
  generalize hg : digN s = d at *
  clear hg
  have f2 : (bitN (capI (s[2].toNat : Int)) == 0) = false := by simpa using c2
  go_enter Tryz.func184, Tryz.ntmps184
  go_wp2_with (first
    | (go_at_call 210; refine (isArea_of _ b1.1 b1.2 _).mono ?_; rintro e w1 ⟨rfl, rfl⟩; rw [C1.out])
    | (go_at_call 186; refine (addressBits_of _ b2.1 b2.2 _).mono ?_; rintro e w1 ⟨rfl, rfl⟩)
    | (go_at_call 117; refine (runEnd_digit_z s _ _ hs (by omega) (by omega)).mono ?_; rintro e w1 ⟨rfl, rfl⟩; simp only [Int.reduceToNat]; rw [D.out])
    | (go_at_call 209; refine (byteAt_z s _ _ (by omega)).mono ?_; rintro e w1 ⟨rfl, rfl⟩; simp only [Int.toNat_zero, Int.toNat_one, Int.reduceToNat]; try rw [B2.out]))
  all_goals
    go_ret
    refine ⟨ret_int ?_, rfl⟩
    rw [← T.out]
    go_light
    try simp only [show 3 + d + 1 = 4 + d by omega] at *
    simp only [beq_iff_eq, beq_eq_false_iff_ne] at *
    unfold tailE
    rw [B2.out]
    rcases Nat.lt_or_ge 3 s.size with q | q
    · have B4 : byt s 3 = s[3].toNat := byt_in s 3 q
      repeat' split
      all_goals omega
    · repeat' split
      all_goals omega
set_option maxHeartbeats 400000 in
theorem addressEnd_of (s : ByteArray) (w : World) (hs : s.size ≤ maxLen) : Calls Tryz.prog 184 #[.string s, .int .i64 0] w fun e w' => e = .returned (.int .i64 (adE s)) ∧ w' = w := by
  have b0 := byt_bounds s 0
  have b1 := byt_bounds s 1
  have b2 := byt_bounds s 2
  generalize hr : adE s = r
  have R : Hid (adE s = r) := hr
  clear hr
  by_cases c0 : byt s 0 = 37
  · cases c1 : areaB (capI (byt s 1))
    · have R' : Hid (-1 = r) := by
        show _ = _
        rw [← R.out, adE_head]
        unfold headB
        simp [c1]
      have C1 : Hid (areaB (capI (byt s 1)) = false) := c1
      clear c1 R
      go_enter Tryz.func184, Tryz.ntmps184
      go_wp2_with (first
        | (go_at_call 209; refine (byteAt_z s _ _ (by omega)).mono ?_; rintro e w1 ⟨rfl, rfl⟩; simp only [Int.toNat_zero, Int.toNat_one])
        | (go_at_call 210; refine (isArea_of _ b1.1 b1.2 _).mono ?_; rintro e w1 ⟨rfl, rfl⟩; rw [C1.out]))
      go_ret
      exact ⟨ret_int R'.out, rfl⟩
    · have C1 : Hid (areaB (capI (byt s 1)) = true) := c1
      by_cases c2 : bitN (capI (byt s 2)) = 0
      · have R' : Hid (-1 = r) := by
          show _ = _
          rw [← R.out, adE_head]
          unfold headB
          simp [c2]
        have C2 : Hid (bitN (capI (byt s 2)) = 0) := c2
        clear c1 c2 R
        go_enter Tryz.func184, Tryz.ntmps184
        go_wp2_with (first
          | (go_at_call 209; refine (byteAt_z s _ _ (by omega)).mono ?_; rintro e w1 ⟨rfl, rfl⟩; simp only [Int.toNat_zero, Int.toNat_one, Int.reduceToNat])
          | (go_at_call 210; refine (isArea_of _ b1.1 b1.2 _).mono ?_; rintro e w1 ⟨rfl, rfl⟩; rw [C1.out])
          | (go_at_call 186; refine (addressBits_of _ b2.1 b2.2 _).mono ?_; rintro e w1 ⟨rfl, rfl⟩; rw [C2.out]))
        go_ret
        exact ⟨ret_int R'.out, rfl⟩
      · exact addressEnd_in s w hs c0 c1 c2 r R
  · have R' : Hid (-1 = r) := by
      show _ = _
      rw [← R.out, adE_head]
      unfold headB
      simp [c0]
    have f0 : (byt s 0 == 37) = false := by simpa using c0
    clear R
    go_enter Tryz.func184, Tryz.ntmps184
    go_wp2_with (go_at_call 209; refine (byteAt_z s _ _ (by omega)).mono ?_; rintro e w1 ⟨rfl, rfl⟩; simp only [Int.toNat_zero])
    go_ret
    exact ⟨ret_int R'.out, rfl⟩
end Go.Proofs.YtoiipiapgidbiaaGreatDoor
