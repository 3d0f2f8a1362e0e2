/- IsAddr on the program's side; no statement of the seat is proved here. -/
import Derived.Test.YtpcjnhffpkpchaaGreatYa6
namespace Go.Proofs.YtpcjnhffpkpchaaGreat
set_option linter.unusedVariables false
open Go.RowKit
theorem byteAt_of (s : ByteArray) (i : Nat) (w : World) : Calls Tryz.prog 123 #[.string s, .int .i64 i] w fun e w' => e = .returned (.int .u8 (byt s i)) ∧ w' = w := by
  go_enter Tryz.func123, Tryz.ntmps123
  by_cases h : i < s.size
  · have hb : Hid (byt s i = s[i].toNat) := byt_in s i h
    go_wp2
    go_ret
    exact ⟨ret_int hb.out.symm, rfl⟩
  · have hb : Hid (byt s i = 0) := byt_out s i (by omega)
    go_wp2
    go_ret
    exact ⟨ret_int hb.out.symm, rfl⟩
/-- How many bits stand at a letter in capitals; 0: it is no such letter. -/
def bitN (c : Int) : Int := if c = 88 then 1 else if c = 66 then 8 else if c = 87 then 16 else if c = 68 then 32 else if c = 76 then 64 else 0
def areaB (c : Int) : Bool := decide (c = 73 ∨ c = 81 ∨ c = 77)
theorem bit6 (c : Int) : c = 88 ∨ c = 66 ∨ c = 87 ∨ c = 68 ∨ c = 76 ∨ (c ≠ 88 ∧ c ≠ 66 ∧ c ≠ 87 ∧ c ≠ 68 ∧ c ≠ 76) := by omega
theorem bitN_none (c : Int) (h : c ≠ 88 ∧ c ≠ 66 ∧ c ≠ 87 ∧ c ≠ 68 ∧ c ≠ 76) : bitN c = 0 := by
  unfold bitN
  rw [if_neg h.1, if_neg h.2.1, if_neg h.2.2.1, if_neg h.2.2.2.1, if_neg h.2.2.2.2]
set_option maxHeartbeats 1000000 in
theorem addressBits_of (c : Int) (h0 : 0 ≤ c) (h1 : c ≤ 255) (w : World) : Calls Tryz.prog 118 #[.int .u8 c] w fun e w' => e = .returned (.int .i64 (bitN (capI c))) ∧ w' = w := by
  generalize hd : capI c = d
  have D : Hid (capI c = d) := hd
  clear hd
  rcases bit6 d with rfl | rfl | rfl | rfl | rfl | h
  case inr.inr.inr.inr.inr =>
    have e1 : (d == 88) = false := by simp; omega
    have e2 : (d == 66) = false := by simp; omega
    have e3 : (d == 87) = false := by simp; omega
    have e4 : (d == 68) = false := by simp; omega
    have e5 : (d == 76) = false := by simp; omega
    go_enter Tryz.func118, Tryz.ntmps118
    go_wp2_with (go_at_call 125; refine (capital_of _ h0 h1 _).mono ?_; rintro e w1 ⟨rfl, rfl⟩; rw [D.out])
    go_ret
    exact ⟨ret_int (bitN_none d h).symm, rfl⟩
  all_goals
    go_enter Tryz.func118, Tryz.ntmps118
    go_wp2_with (go_at_call 125; refine (capital_of _ h0 h1 _).mono ?_; rintro e w1 ⟨rfl, rfl⟩; rw [D.out])
    go_ret
    exact ⟨ret_int rfl, rfl⟩
set_option maxHeartbeats 1000000 in
theorem isArea_of (c : Int) (h0 : 0 ≤ c) (h1 : c ≤ 255) (w : World) : Calls Tryz.prog 124 #[.int .u8 c] w fun e w' => e = .returned (.bool (areaB (capI c))) ∧ w' = w := by
  generalize hd : capI c = d
  have D : Hid (capI c = d) := hd
  clear hd
  by_cases e1 : d = 73
  · subst e1
    go_enter Tryz.func124, Tryz.ntmps124
    go_wp2_with (go_at_call 125; refine (capital_of _ h0 h1 _).mono ?_; rintro e w1 ⟨rfl, rfl⟩; rw [D.out])
    go_ret
    exact ⟨ret_bool rfl, rfl⟩
  · by_cases e2 : d = 81
    · subst e2
      go_enter Tryz.func124, Tryz.ntmps124
      go_wp2_with (go_at_call 125; refine (capital_of _ h0 h1 _).mono ?_; rintro e w1 ⟨rfl, rfl⟩; rw [D.out])
      go_ret
      exact ⟨ret_bool rfl, rfl⟩
    · have f1 : (d == 73) = false := by simp; omega
      have f2 : (d == 81) = false := by simp; omega
      go_enter Tryz.func124, Tryz.ntmps124
      go_wp2_with (go_at_call 125; refine (capital_of _ h0 h1 _).mono ?_; rintro e w1 ⟨rfl, rfl⟩; rw [D.out])
      go_ret
      refine ⟨ret_bool ?_, rfl⟩
      go_light
      unfold areaB
      rw [Bool.eq_iff_iff]
      simp [e1, e2]
/-- How long the number of an address is. -/
def digN (s : ByteArray) : Nat := runL digB (s.data.toList.drop 3)
/-- Does an address begin at the text's beginning, up to its number? -/
def headB (s : ByteArray) : Bool := decide (byt s 0 = 37) && areaB (capI (byt s 1)) && decide (bitN (capI (byt s 2)) ≠ 0) && decide (1 ≤ digN s ∧ digN s ≤ 4 ∧ ¬ (1 < digN s ∧ byt s 3 = 48))
/-- The place behind the address that a text begins with; -1: none does. -/
def adE (s : ByteArray) : Int :=
  if headB s then
    if 1 < bitN (capI (byt s 2)) then 3 + digN s
    else if byt s (3 + digN s) = 46 ∧ 48 ≤ byt s (4 + digN s) ∧ byt s (4 + digN s) ≤ 55 then 5 + digN s else -1
  else -1
theorem digN_le (s : ByteArray) (h : 3 ≤ s.size) : 3 + digN s ≤ s.size := by
  have := runL_le digB (s.data.toList.drop 3)
  unfold digN
  simp at this
  have e : s.data.size = s.size := rfl
  omega
theorem bit_size (s : ByteArray) (h : bitN (capI (byt s 2)) ≠ 0) : 3 ≤ s.size := by
  rcases Nat.lt_or_ge 2 s.size with q | q
  · omega
  · rw [byt_out s 2 q] at h
    exact absurd rfl h
theorem byteAt_z (s : ByteArray) (i : Int) (w : World) (h : 0 ≤ i) : Calls Tryz.prog 123 #[.string s, .int .i64 i] w fun e w' => e = .returned (.int .u8 (byt s i.toNat)) ∧ w' = w := by
  obtain ⟨n, rfl⟩ := Int.eq_ofNat_of_zero_le h
  exact byteAt_of s n w
theorem runEnd_digit_z (s : ByteArray) (i : Int) (w : World) (hs : s.size ≤ maxLen) (h0 : 0 ≤ i) (hi : i ≤ s.size) :
    Calls Tryz.prog 82 #[.string s, .int .i64 i, .func (.func 100) #[] #[]] w fun e w' => e = .returned (.int .i64 ((i.toNat + runL digB (s.data.toList.drop i.toNat) : Nat) : Int)) ∧ w' = w := by
  obtain ⟨n, rfl⟩ := Int.eq_ofNat_of_zero_le h0
  exact runEnd_digit s n w hs (by omega)
theorem adE_head (s : ByteArray) (h : headB s = false) : adE s = -1 := by
  unfold adE
  rw [h]
  rfl
/-- What is left behind the number. -/
def tailE (s : ByteArray) (d : Nat) : Int :=
  if 1 ≤ d ∧ d ≤ 4 ∧ ¬ (1 < d ∧ byt s 3 = 48) then
    if 1 < bitN (capI (byt s 2)) then 3 + d
    else if byt s (3 + d) = 46 ∧ 48 ≤ byt s (4 + d) ∧ byt s (4 + d) ≤ 55 then 5 + d else -1
  else -1
theorem adE_tail (s : ByteArray) (c0 : byt s 0 = 37) (c1 : areaB (capI (byt s 1)) = true) (c2 : ¬ bitN (capI (byt s 2)) = 0) : adE s = tailE s (digN s) := by
  unfold adE tailE headB
  rw [c0, c1, decide_eq_true c2]
  by_cases h : 1 ≤ digN s ∧ digN s ≤ 4 ∧ ¬ (1 < digN s ∧ byt s 3 = 48)
  · rw [if_pos h, decide_eq_true h]
    rfl
  · rw [if_neg h, decide_eq_false h]
    rfl
set_option maxHeartbeats 1000000 in
theorem addressEnd_in (s : ByteArray) (w : World) (hs : s.size ≤ maxLen) (c0 : byt s 0 = 37) (c1 : areaB (capI (byt s 1)) = true) (c2 : ¬ bitN (capI (byt s 2)) = 0) (r : Int) (R : Hid (adE s = r)) :
    Calls Tryz.prog 116 #[.string s, .int .i64 0] w fun e w' => e = .returned (.int .i64 r) ∧ w' = w := by
  have b1 := byt_bounds s 1
  have hz := bit_size s c2
  have hd := digN_le s hz
  have T : Hid (tailE s (digN s) = r) := by show _ = _; rw [← R.out, adE_tail s c0 c1 c2]
  clear R
  have hm : s.size ≤ 9223372036854775807 := hs
  have D : Hid (runL digB (s.data.toList.drop 3) = digN s) := rfl
  have B2 : Hid (byt s 2 = s[2].toNat) := byt_in s 2 (by omega)
  have b2 := byt_bounds s 2
  rw [B2.out] at c2 b2
  have C1 : Hid (areaB (capI (byt s 1)) = true) := c1
  clear c1
  generalize hg : digN s = d at *
  clear hg
  have f2 : (bitN (capI (s[2].toNat : Int)) == 0) = false := by simpa using c2
  go_enter Tryz.func116, Tryz.ntmps116
  go_wp2_with (first
    | (go_at_call 124; refine (isArea_of _ b1.1 b1.2 _).mono ?_; rintro e w1 ⟨rfl, rfl⟩; rw [C1.out])
    | (go_at_call 118; refine (addressBits_of _ b2.1 b2.2 _).mono ?_; rintro e w1 ⟨rfl, rfl⟩)
    | (go_at_call 82; refine (runEnd_digit_z s _ _ hs (by omega) (by omega)).mono ?_; rintro e w1 ⟨rfl, rfl⟩; simp only [Int.reduceToNat]; rw [D.out])
    | (go_at_call 123; refine (byteAt_z s _ _ (by omega)).mono ?_; rintro e w1 ⟨rfl, rfl⟩; simp only [Int.toNat_zero, Int.toNat_one, Int.reduceToNat]; try rw [B2.out]))
  all_goals
    go_ret
    refine ⟨ret_int ?_, rfl⟩
    rw [← T.out]
    go_light
    try simp only [show 3 + d + 1 = 4 + d by omega] at *
    simp only [beq_iff_eq, beq_eq_false_iff_ne] at *
    unfold tailE
    rw [B2.out]
    rcases Nat.lt_or_ge 3 s.size with q | q
    · have B4 : byt s 3 = s[3].toNat := byt_in s 3 q
      repeat' split
      all_goals omega
    · repeat' split
      all_goals omega
set_option maxHeartbeats 400000 in
theorem addressEnd_of (s : ByteArray) (w : World) (hs : s.size ≤ maxLen) : Calls Tryz.prog 116 #[.string s, .int .i64 0] w fun e w' => e = .returned (.int .i64 (adE s)) ∧ w' = w := by
  have b0 := byt_bounds s 0
  have b1 := byt_bounds s 1
  have b2 := byt_bounds s 2
  generalize hr : adE s = r
  have R : Hid (adE s = r) := hr
  clear hr
  by_cases c0 : byt s 0 = 37
  · cases c1 : areaB (capI (byt s 1))
    · have R' : Hid (-1 = r) := by
        show _ = _
        rw [← R.out, adE_head]
        unfold headB
        simp [c1]
      have C1 : Hid (areaB (capI (byt s 1)) = false) := c1
      clear c1 R
      go_enter Tryz.func116, Tryz.ntmps116
      go_wp2_with (first
        | (go_at_call 123; refine (byteAt_z s _ _ (by omega)).mono ?_; rintro e w1 ⟨rfl, rfl⟩; simp only [Int.toNat_zero, Int.toNat_one])
        | (go_at_call 124; refine (isArea_of _ b1.1 b1.2 _).mono ?_; rintro e w1 ⟨rfl, rfl⟩; rw [C1.out]))
      go_ret
      exact ⟨ret_int R'.out, rfl⟩
    · have C1 : Hid (areaB (capI (byt s 1)) = true) := c1
      by_cases c2 : bitN (capI (byt s 2)) = 0
      · have R' : Hid (-1 = r) := by
          show _ = _
          rw [← R.out, adE_head]
          unfold headB
          simp [c2]
        have C2 : Hid (bitN (capI (byt s 2)) = 0) := c2
        clear c1 c2 R
        go_enter Tryz.func116, Tryz.ntmps116
        go_wp2_with (first
          | (go_at_call 123; refine (byteAt_z s _ _ (by omega)).mono ?_; rintro e w1 ⟨rfl, rfl⟩; simp only [Int.toNat_zero, Int.toNat_one, Int.reduceToNat])
          | (go_at_call 124; refine (isArea_of _ b1.1 b1.2 _).mono ?_; rintro e w1 ⟨rfl, rfl⟩; rw [C1.out])
          | (go_at_call 118; refine (addressBits_of _ b2.1 b2.2 _).mono ?_; rintro e w1 ⟨rfl, rfl⟩; rw [C2.out]))
        go_ret
        exact ⟨ret_int R'.out, rfl⟩
      · exact addressEnd_in s w hs c0 c1 c2 r R
  · have R' : Hid (-1 = r) := by
      show _ = _
      rw [← R.out, adE_head]
      unfold headB
      simp [c0]
    have f0 : (byt s 0 == 37) = false := by simpa using c0
    clear R
    go_enter Tryz.func116, Tryz.ntmps116
    go_wp2_with (go_at_call 123; refine (byteAt_z s _ _ (by omega)).mono ?_; rintro e w1 ⟨rfl, rfl⟩; simp only [Int.toNat_zero])
    go_ret
    exact ⟨ret_int R'.out, rfl⟩
end Go.Proofs.YtpcjnhffpkpchaaGreat
namespace Go.Proofs.YtpcjnhffpkpchaaGreat
set_option linter.unusedVariables false
open Go.RowKit
/-- 1 of an input, 2 of an output, 0 of memory. -/
def dirN (c : Int) : Int := if c = 73 then 1 else if c = 81 then 2 else 0
/-- Is a text an address in capitals? -/
def addrB (s : ByteArray) : Bool := decide (adE s = s.size) && decide (capS s = s)
/-- What IsAddr answers. -/
def addrV (s : ByteArray) : Value := if addrB s then .tuple #[.int .i64 (bitN (byt s 2)), .int .i64 (dirN (byt s 1)), .bool true] else .tuple #[.int .i64 0, .int .i64 0, .bool false]
theorem addrV_no (s : ByteArray) (h : ¬ adE s = s.size ∨ ¬ capS s = s) : addrV s = .tuple #[.int .i64 0, .int .i64 0, .bool false] := by
  have : addrB s = false := by
    unfold addrB
    rcases h with h | h <;> simp [h]
  unfold addrV
  rw [this]
  rfl
theorem addrV_yes (s : ByteArray) (h : adE s = s.size) (h' : capS s = s) : addrV s = .tuple #[.int .i64 (bitN (byt s 2)), .int .i64 (dirN (byt s 1)), .bool true] := by
  have : addrB s = true := by
    unfold addrB
    simp [h, h']
  unfold addrV
  rw [this]
  rfl
theorem ret_val {a b : Value} (h : a = b) : Ending.returned a = .returned b := by rw [h]
theorem adE_ok (s : ByteArray) (h : adE s = s.size) : byt s 0 = 37 ∧ areaB (capI (byt s 1)) = true ∧ bitN (capI (byt s 2)) ≠ 0 ∧ 3 ≤ s.size := by
  cases g : headB s
  · rw [adE_head s g] at h
    omega
  · unfold headB at g
    simp only [Bool.and_eq_true, decide_eq_true_eq] at g
    exact ⟨g.1.1.1, g.1.1.2, g.1.2, bit_size s g.1.2⟩
theorem capU_of_capS (s : ByteArray) (h : capS s = s) (i : Nat) : capI (byt s i) = byt s i := by
  rcases Nat.lt_or_ge i s.size with q | q
  · have e : (s.data.toList.map capU) = s.data.toList := by
      have := congrArg (fun x : ByteArray => x.data.toList) h
      simpa [capS] using this
    have q' : i < s.data.toList.length := by simpa using q
    have f : (s.data.toList.map capU)[i]? = s.data.toList[i]? := by rw [e]
    rw [List.getElem?_map, List.getElem?_eq_getElem q'] at f
    simp only [Option.map_some, Option.some.injEq] at f
    have g := capU_toNat (s.data.toList[i])
    rw [f] at g
    unfold byt
    rw [List.getD_eq_getElem?_getD, List.getElem?_eq_getElem q']
    exact g.symm
  · rw [byt_out s i q]
    rfl
theorem text_ne {a b : ByteArray} (h : ¬ a = b) : (a.toList == b.toList) = false := by
  rw [beq_eq_false_iff_ne]
  intro q
  rw [ByteArray.toList_eq, ByteArray.toList_eq] at q
  exact h (by cases a; cases b; simp at q; rw [q])
/-- The byte of an address that tells its direction, as the program's and the document's switch have it. -/
theorem dir3 (c : Int) : c = 73 ∨ c = 81 ∨ (c ≠ 73 ∧ c ≠ 81) := by omega
theorem dirN_no (c : Int) (h : c ≠ 73 ∧ c ≠ 81) : dirN c = 0 := by
  unfold dirN
  rw [if_neg h.1, if_neg h.2]
set_option maxHeartbeats 1000000 in
theorem IsAddr_yes (s : ByteArray) (w : World) (hs : s.size ≤ maxLen) (E : Hid (adE s = s.size)) (C : Hid (capS s = s)) (hz : 3 ≤ s.size) : Calls Tryz.prog 104 #[.string s] w fun e w' => e = .returned (addrV s) ∧ Below w.heap.size w w' := by
  generalize hv : addrV s = v
  have V : Hid (v = .tuple #[.int .i64 (bitN (byt s 2)), .int .i64 (dirN (byt s 1)), .bool true]) := by
    show _ = _
    rw [← hv, addrV_yes s E.out C.out]
  clear hv
  have hm : s.size ≤ 9223372036854775807 := hs
  have b1 : Hid (byt s 1 = s[1].toNat) := byt_in s 1 (by omega)
  have b2 : Hid (byt s 2 = s[2].toNat) := byt_in s 2 (by omega)
  have bb := byt_bounds s 2
  rw [b2.out] at bb
  have C2 : Hid (capI (s[2].toNat : Int) = s[2].toNat) := by
    show _ = _
    rw [← b2.out]
    exact capU_of_capS s C.out 2
  rw [b1.out, b2.out] at V
  rcases dir3 (s[1].toNat : Int) with h | h | h
  all_goals
    first
    | have f1 : ((s[1].toNat : Int) == 73) = true := by simpa using h
    | have f1 : ((s[1].toNat : Int) == 73) = false := by simp; omega
    first
    | have f2 : ((s[1].toNat : Int) == 81) = true := by simpa using h
    | have f2 : ((s[1].toNat : Int) == 81) = false := by simp; omega
    have V2 : Hid (v = .tuple #[.int .i64 (bitN (s[2].toNat : Int)), .int .i64 (if (s[1].toNat : Int) = 73 then 1 else if (s[1].toNat : Int) = 81 then 2 else 0), .bool true]) := V
    have H : Hid _ := h
    clear V h
    go_enter Tryz.func104, Tryz.ntmps104
    go_wp2_with (first
      | (go_at_call 116; refine (addressEnd_of s _ hs).mono ?_; rintro e w1 ⟨rfl, rfl⟩; rw [E.out])
      | (go_at_call 117; refine (capitals_of s _ hs).mono ?_; rintro e w1 ⟨rfl, hB⟩; rw [C.out])
      | (go_at_call 118; refine (addressBits_of _ bb.1 bb.2 _).mono ?_; rintro e w1 ⟨rfl, rfl⟩; rw [C2.out]))
    go_returns
    refine ⟨ret_val ?_, by assumption⟩
    rw [V2.out]
    have h := H.out
    first
    | (rw [if_pos h]; rfl)
    | (rw [if_neg (by omega), if_pos h]; rfl)
    | (rw [if_neg h.1, if_neg h.2]; rfl)
set_option maxHeartbeats 1000000 in
theorem IsAddr_of (s : ByteArray) (w : World) (hs : s.size ≤ maxLen) : Calls Tryz.prog 104 #[.string s] w fun e w' => e = .returned (addrV s) ∧ Below w.heap.size w w' := by
  by_cases hE : adE s = s.size
  · by_cases hC : capS s = s
    · exact IsAddr_yes s w hs hE hC (adE_ok s hE).2.2.2
    · generalize hv : addrV s = v
      have V' : Hid (v = .tuple #[.int .i64 0, .int .i64 0, .bool false]) := by
        show _ = _
        rw [← hv, addrV_no s (Or.inr hC)]
      have E : Hid (adE s = s.size) := hE
      have f := text_ne hC
      clear hE hv hC
      go_enter Tryz.func104, Tryz.ntmps104
      go_wp2_with (first
        | (go_at_call 116; refine (addressEnd_of s _ hs).mono ?_; rintro e w1 ⟨rfl, rfl⟩; rw [E.out])
        | (go_at_call 117; refine (capitals_of s _ hs).mono ?_; rintro e w1 ⟨rfl, hB⟩))
      go_returns
      exact ⟨ret_val V'.out.symm, by assumption⟩
  · generalize hv : addrV s = v
    have V' : Hid (v = .tuple #[.int .i64 0, .int .i64 0, .bool false]) := by
      show _ = _
      rw [← hv, addrV_no s (Or.inl hE)]
    have f : (adE s == (s.size : Int)) = false := by simpa using hE
    clear hv
    go_enter Tryz.func104, Tryz.ntmps104
    go_wp2_with (go_at_call 116; refine (addressEnd_of s _ hs).mono ?_; rintro e w1 ⟨rfl, rfl⟩)
    go_returns
    exact ⟨ret_val V'.out.symm, Below.refl _ _⟩
end Go.Proofs.YtpcjnhffpkpchaaGreat
