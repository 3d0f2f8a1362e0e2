/- What readSpan of times answers of the text of a span's parts; no statement of the seat is proved here. -/
import Derived.Test.YtpdnlojennhmpaaGreatDoorBsA
import Derived.Test.YtpdnlojennhmpaaGreatDoorUp
import Derived.Test.YtpdnlojennhmpaaGreatDoorSubG
import Derived.Test.YtpdnlojennhmpaaGreatDoorAwk3
namespace Go.Proofs.YtpdnlojennhmpaaGreatDoor
set_option linter.unusedVariables false
open Go.RowKit
/-- A span, if an int has it. -/
def spV (neg : Bool) (S : Nat) : Value := if S ≤ 9223372036854775807 then .tuple #[.int .i64 (if neg then -(S : Int) else S), .bool true] else .tuple #[.int .i64 0, .bool false]
def ptB (ps : List (Nat × Nat)) : ByteArray := ⟨(ptT ps).toArray⟩
theorem uN_nm (j : Nat) : uN j = ⟨(nmL j).toArray⟩ := pN_nm j
theorem uL_p (j : Nat) (h : j < 7) : uL j = (pL j : Int) := by
  rcases (by omega : j = 0 ∨ j = 1 ∨ j = 2 ∨ j = 3 ∨ j = 4 ∨ j = 5 ∨ j = 6) with rfl | rfl | rfl | rfl | rfl | rfl | rfl <;> decide
theorem uB_p (j : Nat) (h : j < 7) (h1 : 1 ≤ j) : uB j = (pB j : Int) := by
  rcases (by omega : j = 1 ∨ j = 2 ∨ j = 3 ∨ j = 4 ∨ j = 5 ∨ j = 6) with rfl | rfl | rfl | rfl | rfl | rfl <;> decide
theorem pt_a (j c : Nat) (ps : List (Nat × Nat)) (h : j < 7) : cutN digT (ptB ((j, c) :: ps)) = (Lib.decDigits c).length := by
  show runT digT (Lib.decDigits c ++ (nmL j ++ ptT ps)).toArray.toList = _
  obtain ⟨d, l, e, d0, d1⟩ := nm_head j h (ptT ps)
  rw [List.toList_toArray, run_dec, e, run_none _ _ _ (by unfold digT; simp; omega)]
  rfl
theorem pt_b (j c : Nat) (ps : List (Nat × Nat)) (h : j < 7) : (ptB ((j, c) :: ps)).extract 0 (cutN digT (ptB ((j, c) :: ps))) = decS c := by
  rw [pt_a j c ps h]
  refine ba_eq _ _ ?_
  rw [ext_list]
  show ((Lib.decDigits c ++ (nmL j ++ ptT ps)).toArray.toList.take _).drop 0 = _
  simp
theorem pt_c (j c : Nat) (ps : List (Nat × Nat)) (h : j < 7) : (ptB ((j, c) :: ps)).extract (cutN digT (ptB ((j, c) :: ps))) (ptB ((j, c) :: ps)).size = ⟨(nmL j ++ ptT ps).toArray⟩ := by
  rw [pt_a j c ps h]
  refine ba_eq _ _ ?_
  rw [ext_list, List.take_of_length_le (by simp)]
  show (Lib.decDigits c ++ (nmL j ++ ptT ps)).toArray.toList.drop _ = _
  simp
theorem pre_no (x d : UInt8) (l : List UInt8) (h : ¬ d = x) : preB x ⟨(d :: l).toArray⟩ = false := by
  unfold preB
  have e : ((⟨(d :: l).toArray⟩ : ByteArray).extract 0 1).toList = [d] := by
    rw [ByteArray.toList_eq, ext_list]
    simp
  rw [e]
  simp [h]
theorem pt_d (j : Nat) (ps : List (Nat × Nat)) (h : j < 7) : preB 46 ⟨(nmL j ++ ptT ps).toArray⟩ = false := by
  obtain ⟨d, l, e, d0, d1⟩ := nm_head j h (ptT ps)
  rw [e]
  refine pre_no _ _ _ ?_
  intro g
  subst g
  simp at d0
theorem pt_e (j : Nat) (ps : List (Nat × Nat)) (h : j < 7) : cutN letT ⟨(nmL j ++ ptT ps).toArray⟩ = (nmL j).length := by
  show runT letT (nmL j ++ ptT ps).toArray.toList = _
  rw [List.toList_toArray, run_nm j h]
  rcases ptT_head ps with rfl | ⟨d, l, e, d0, d1⟩
  · rfl
  · rw [e, run_none _ _ _ (by unfold letT; simp; omega)]
    rfl
theorem pt_f (j : Nat) (ps : List (Nat × Nat)) (h : j < 7) : (⟨(nmL j ++ ptT ps).toArray⟩ : ByteArray).extract 0 (cutN letT ⟨(nmL j ++ ptT ps).toArray⟩) = uN j := by
  rw [pt_e j ps h, uN_nm]
  refine ba_eq _ _ ?_
  rw [ext_list]
  show ((nmL j ++ ptT ps).toArray.toList.take _).drop 0 = _
  simp
theorem pt_g (j : Nat) (ps : List (Nat × Nat)) (h : j < 7) : (⟨(nmL j ++ ptT ps).toArray⟩ : ByteArray).extract (cutN letT ⟨(nmL j ++ ptT ps).toArray⟩) (⟨(nmL j ++ ptT ps).toArray⟩ : ByteArray).size = ptB ps := by
  rw [pt_e j ps h]
  refine ba_eq _ _ ?_
  rw [ext_list, List.take_of_length_le (by show (nmL j ++ ptT ps).toArray.toList.length ≤ (nmL j ++ ptT ps).toArray.size; simp)]
  show (nmL j ++ ptT ps).toArray.toList.drop _ = _
  simp
theorem cutPart_pt (j c : Nat) (ps : List (Nat × Nat)) (h : j < 7) (hs : (ptB ((j, c) :: ps)).size ≤ maxLen) (w : World) : Calls Tryz.prog 34 #[.string (ptB ((j, c) :: ps))] w fun e w' => e = .returned (.tuple #[.agg #[.string (decS c), .string s0, .bool false, .string (uN j)], .string (ptB ps)]) ∧ Below w.heap.size w w' :=
  cutPart_nodot _ w hs _ _ _ _ (pt_b j c ps h) (pt_c j c ps h) (pt_d j ps h) (pt_f j ps h) (pt_g j ps h)
theorem upper_u (j : Nat) (h : j < 7) : (⟨(Lib.toUpperA (uN j).data.toList).toArray⟩ : ByteArray) = uN j := by
  rcases (by omega : j = 0 ∨ j = 1 ∨ j = 2 ∨ j = 3 ∨ j = 4 ∨ j = 5 ∨ j = 6) with rfl | rfl | rfl | rfl | rfl | rfl | rfl <;> decide
theorem ascii_u (j : Nat) (h : j < 7) (i : Nat) (x : UInt8) (hx : (uN j).data.toList[i]? = some x) : x.toNat < 128 := by
  have : ∀ y ∈ (uN j).data.toList, y.toNat < 128 := by
    rcases (by omega : j = 0 ∨ j = 1 ∨ j = 2 ∨ j = 3 ∨ j = 4 ∨ j = 5 ∨ j = 6) with rfl | rfl | rfl | rfl | rfl | rfl | rfl <;> decide
  exact this x (List.mem_of_getElem? hx)
theorem rnV_dec (c : Nat) (h : c ≤ 9223372036854775807) : rnV (decS c) = .tuple #[.int .i64 c, .bool true] := by
  unfold rnV
  have e : (decS c).data.toList = Lib.decDigits c := by simp [decS]
  rw [e, rn_dec c h]
  have := decS_pos c
  rw [isEmpty_noT (by omega)]
  rfl
theorem ptB_size (p : Nat × Nat) (ps : List (Nat × Nat)) : (ptB ps).size ≤ (ptB (p :: ps)).size := by
  obtain ⟨j, c⟩ := p
  show (ptT ps).toArray.size ≤ (Lib.decDigits c ++ (nmL j ++ ptT ps)).toArray.size
  simp
  omega
theorem ptB_empty (ps : List (Nat × Nat)) : (ptB ps).toList.isEmpty = ps.isEmpty := by
  rw [ByteArray.toList_eq]
  show (ptT ps).toArray.toList.isEmpty = _
  rcases ptT_head ps with rfl | ⟨d, l, e, d0, d1⟩
  · rfl
  · rw [e]
    cases ps with
    | nil => simp [ptT] at e
    | cons p ps => rfl
theorem ptB_trim (ps : List (Nat × Nat)) : aftB 95 (ptB ps) = ptB ps := by
  unfold aftB ptB
  rcases ptT_head ps with rfl | ⟨d, l, e, d0, d1⟩
  · rfl
  · rw [e, pre_no 95 d l (by intro g; subst g; simp at d1)]
    rfl
set_option maxRecDepth 100000 in
set_option maxHeartbeats 4000000 in
theorem readSpan_pt (neg : Bool) (s : ByteArray) (ps : List (Nat × Nat)) (w : World) (hne : ps ≠ []) (ok : ptOk 0 ps) (hS : ptS ps ≤ 9223372036854775808) (hs : s.size ≤ 200) (hn : preB 45 s = neg) (ha : aftB 45 s = ptB ps) (u : UT7 w) : Calls Tryz.prog 16 #[.string s] w fun e w' => e = .returned (spV neg (ptS ps)) ∧ Below w.heap.size w w' := by
  have U : Hid (UT7 w) := u
  have C1 : Hid _ := fun w => cutPre_of 45 s w (by unfold maxLen; omega)
  have k1 := aftB_size 45 s
  rw [ha] at k1
  rw [ha, hn] at C1
  have OK : Hid (ptOk 0 ps) := ok
  have NE : Hid (ps ≠ []) := hne
  clear u ha hn ok hne
  generalize hS' : ptS ps = S at *
  have HS : Hid (ptS ps = S) := hS'
  clear hS'
  generalize hV : spV neg S = V at *
  have HV : Hid (spV neg S = V) := hV
  clear hV
  go_enter Tryz.func16, Tryz.ntmps16
  go_wp2_with (go_at_call 33; refine (C1.out _).mono ?_; rintro e w2 ⟨rfl, rfl⟩)
  go_loopw [0, 5, 6] (fun sv sp nx wr => ∃ (qs : List (Nat × Nat)) (x k : Nat), sv = .string (ptB qs) ∧ (ptB qs).size ≤ 200 ∧ Hid (ptOk k qs ∧ qs ≠ [] ∧ x + ptS qs = S) ∧ x ≤ S ∧ sp = .int .i64 x ∧ x ≤ 9223372036854775807 ∧ nx = .int .i64 k ∧ k ≤ 7 ∧ Below w2.heap.size w2 wr) (fun _ _ nx _ => 8 - (intOf nx).toNat)
  case atStart => exact ⟨ps, 0, 0, rfl, by omega, ⟨OK.out, NE.out, by rw [HS.out]; omega⟩, by omega, rfl, by omega, rfl, by omega, Below.refl _ _⟩
  case round =>
    obtain ⟨qs, x, k, rfl, ht, Q, hxS, rfl, hx, rfl, hk, hB⟩ := hrel
    have B : Hid (Below w2.heap.size w2 wr) := hB
    have UR : Hid (UT7 wr) := U.out.next hB
    clear hB
    obtain ⟨j, c, rs, rfl⟩ : ∃ j c rs, qs = (j, c) :: rs := by
      cases qs with
      | nil => exact absurd rfl Q.out.2.1
      | cons p rs => exact ⟨p.1, p.2, rs, rfl⟩
    obtain ⟨⟨kj, hj, kc, c1, c2, okr⟩, _, sum⟩ := Q.out
    have OR : Hid (ptOk (j + 1) rs) := okr
    have sz := ptB_size (j, c) rs
    have C2 : Hid _ := fun w => cutPart_pt j c rs hj (by unfold maxLen; omega) w
    have em := ptB_empty rs
    have tr := ptB_trim rs
    have sum' : x + (c * pL j + ptS rs) = S := sum
    clear Q okr sum
    generalize ptB ((j, c) :: rs) = t at *
    have RN : Hid _ := rnV_dec c (by omega)
    have dsz := decS_size c (by omega)
    generalize decS c = dc at *
    generalize hr : ptB rs = r at *
    have HR : Hid (ptB rs = r) := hr
    clear hr
    obtain ⟨q0, q1, q2⟩ := UR.out j hj
    clear q0 q1 q2
    have AU : Hid _ := ascii_u j hj
    have UU : Hid _ := upper_u j hj
    have FU : Hid (∀ w, UT7 w → Calls Tryz.prog 35 #[.string (uN j), .int .i64 k] w fun e w' => e = .returned (.tuple #[.int .i64 j, .bool true]) ∧ w' = w) := fun w u => findUnit_is j k w u hj kj
    have bl := uL_bd j hj
    have ul := uL_p j hj
    have pl0 := pL_bd j
    have ub : k = 0 ∨ 1 ≤ k ∧ (c : Int) < uB j := by
      rcases kc with h | h
      · exact Or.inl h
      · by_cases k0 : k = 0
        · exact Or.inl k0
        · right; rw [uB_p j hj (by omega)]; omega
    have NN : Hid (∀ w, Calls Tryz.prog 37 #[.agg #[.string dc, .string s0, .bool false, .string (uN j)], .agg #[.string (uN j), .int .i64 (uL j), .int .i64 (uB j)], .bool ((k : Int) == 0)] w fun e w' => e = .returned (.tuple #[.int .i64 ((c : Int) * uL j), .bool true]) ∧ Below w.heap.size w w') := fun w => by
      refine nanos_is dc (uN j) (uN j) c (uL j) (uB j) ((k : Int) == 0) (by unfold maxLen; omega) RN.out (by omega) bl.1 bl.2 ?_ ?_ w
      · rcases ub with h | ⟨h, h2⟩
        · left; subst h; rfl
        · right; exact ⟨by simp; omega, h2⟩
      · rw [ul]; have : ((c * pL j : Nat) : Int) ≤ 9223286400000000000 := by omega
        push_cast at this; omega
    have prod : (c : Int) * uL j = ((c * pL j : Nat) : Int) := by rw [ul]; push_cast; rfl
    rw [prod] at NN
    generalize c * pL j = m at *
    clear prod ul kc ub RN
    generalize hu : uN j = nm at *
    go_wp2_with fail
    refine (C2.out _).mono ?_
    rintro e w3 ⟨rfl, hb3⟩
    have B3 : Hid (Below w2.heap.size w2 w3) := B.out.trans (hb3.mono B.out.size)
    have U3 : Hid (UT7 w3) := UR.out.next hb3
    clear hb3 B UR
    have nsz : nm.size ≤ 2 := by rw [← hu]; exact pN_bd j
    go_wp2_with fail
    refine (Tryz.strings_ToUpper_ascii nm _ (by omega) AU.out).mono ?_
    rintro e w4 ⟨rfl, hb4⟩
    obtain ⟨c4, f4, z4, B4'⟩ := bb1 hb4
    have B4 : Hid (Below w2.heap.size w2 w4) := B3.out.trans (B4'.mono B3.out.size)
    have U4 : Hid (UT7 w4) := U3.out.next B4'
    clear hb4 B4'
    rw [UU.out]
    go_wp2_with fail
    refine (FU.out _ U4.out).mono ?_
    rintro e w5 ⟨rfl, rfl⟩
    obtain ⟨q0, q1, q2⟩ := U4.out j hj
    rw [hu] at q0
    have n0 := U4.out.pos
    have i7 : (j : Int) < 7 := by omega
    cases rs with
    | nil =>
      have er : r.toList.isEmpty = true := em
      have fin : Hid (S = x + m) := by show _ = _; have : ptS [] = 0 := rfl; omega
      go_wp2_with fail
      refine wp_region_sub2 (by kernel_rfl) (by kernel_rfl) ?_
      intro cx
      repeat (first | go_big_quiet_skip | (go_big_quiet_want; go_big_quiet_op; first | go_big_quiet_on | (refine ⟨_, fun _ => rfl, ?_⟩; go_big_quiet_on) | go_big_quiet_call (first | (go_at_call 37; exact calls_sub (NN.out _)))))
      refine wpQuiet_nil ?_
      rintro _ ⟨y, rfl⟩
      have B5 : Hid (Below w2.heap.size w2 y.w) := B4.out.trans (y.h.mono B4.out.size)
      clear cx
      by_cases big : x + m ≤ 9223372036854775807
      · have E : Hid (V = .tuple #[.int .i64 (if neg then -((x + m : Nat) : Int) else ((x + m : Nat) : Int)), .bool true]) := by
          show _ = _
          rw [← HV.out, spV, if_pos (by rw [fin.out]; exact big), fin.out]
        cases neg
        · go_wp2
          go_returns
          refine ⟨?_, B5.out⟩
          rw [E.out]
          simp
        · go_wp2
          go_returns
          refine ⟨?_, B5.out⟩
          rw [E.out]
          simp
      · have E : Hid (V = .tuple #[.int .i64 0, .bool false]) := by
          show _ = _
          rw [← HV.out, spV, if_neg (by rw [fin.out]; exact big)]
        go_wp2
        go_returns
        exact ⟨by rw [E.out]; rfl, B5.out⟩
    | cons p rs =>
      have er : r.toList.isEmpty = false := em
      have T : Hid (∀ w, Calls Tryz.prog 38 #[.string r, .string ⟨#[95]⟩] w fun e w' => e = .returned (.string r) ∧ w' = w) := fun w => by
        have := trimPre_of 95 r w (by unfold maxLen; omega)
        rwa [tr] at this
      go_wp2_with fail
      refine wp_region_sub2 (by kernel_rfl) (by kernel_rfl) ?_
      intro cx
      repeat (first | go_big_quiet_skip | (go_big_quiet_want; go_big_quiet_op; first | go_big_quiet_on | (refine ⟨_, fun _ => rfl, ?_⟩; go_big_quiet_on) | go_big_quiet_call (first | (go_at_call 37; exact calls_sub (NN.out _)))))
      refine wpQuiet_nil ?_
      rintro _ ⟨y, rfl⟩
      have B5 : Hid (Below w2.heap.size w2 y.w) := B4.out.trans (y.h.mono B4.out.size)
      clear cx
      by_cases big : x + m ≤ 9223372036854775807
      · go_wp2_with (go_at_call 38; refine (T.out _).mono ?_; rintro e w6 ⟨rfl, rfl⟩)
        go_roundw
        case rel =>
          go_light
          exact ⟨p :: rs, x + m, j + 1, by rw [HR.out], by rw [HR.out]; omega, ⟨OR.out, by simp, by omega⟩, by omega, by go_num, by omega, by go_num, by omega, B5.out⟩
        case measure => simp [intOf]; omega
      · have E : Hid (V = .tuple #[.int .i64 0, .bool false]) := by
          show _ = _
          rw [← HV.out, spV, if_neg (by omega)]
        go_wp2
        go_returns
        exact ⟨by rw [E.out]; rfl, B5.out⟩
end Go.Proofs.YtpdnlojennhmpaaGreatDoor
