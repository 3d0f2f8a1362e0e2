/- What readNumber of value answers of a text that is no number; no statement of the seat is proved here. -/
import Derived.Test.YtlaamkfpdompjaaGreatDoorBkA
namespace Go.Proofs.YtlaamkfpdompjaaGreatDoor
set_option linter.unusedVariables false
open Go.RowKit
/-- At the kth byte the number goes on, or it is none. -/
theorem rdL_at (d : ByteArray) (k : Nat) (z : Int) (h : k < d.size) : rdL (d.data.toList.drop k) z = if (d[k].toNat : Int) < 48 then none else if 57 < (d[k].toNat : Int) then none else if (18446744073709551615 - ((d[k].toNat : Int) - 48)) / 10 < z then none else rdL (d.data.toList.drop (k + 1)) (z * 10 + ((d[k].toNat : Int) - 48)) := by
  have e : d.data.toList.drop k = d[k] :: d.data.toList.drop (k + 1) := by
    rw [List.drop_eq_getElem_cons (by simpa using h)]; rfl
  rw [e]
  rfl
set_option maxHeartbeats 2000000 in
theorem readNumber_none (s d : ByteArray) (p : Bool) (w : World) (C : Hid (∀ w, Calls Tryz.prog 53 #[.string s, .string sMinus] w fun e w' => e = .returned (.tuple #[.string d, .bool p]) ∧ w' = w)) (hd : d.size ≤ maxLen) (h0 : 0 < d.size)
    (hq : (d[0].toNat : Int) ≠ 48) (R : Hid (rdL d.data.toList 0 = none)) :
    Calls Tryz.prog 29 #[.string s] w fun e w' => e = .returned (.tuple #[NB 0, .bool false]) ∧ Below w.heap.size w w' := by
  have hm : d.size ≤ 9223372036854775807 := hd
  have g : (d.toList == []) = false := by
    rw [beq_eq_false_iff_ne, ByteArray.toList_eq]
    intro q
    have : d.data.toList.length = 0 := by rw [q]; rfl
    rw [Array.length_toList] at this
    have e : d.data.size = d.size := rfl
    omega
  have q0' : ((d[0].toNat : Int) == 48) = false := by simpa using hq
  go_enter Tryz.func29, Tryz.ntmps29
  go_wp2_with (go_at_call 53; refine (C.out _).mono ?_; rintro e w' ⟨rfl, rfl⟩)
  go_loop [6, 28] (fun sz i => ∃ (k : Nat) (z : Int), k ≤ d.size ∧ i = .int .i64 k ∧ sz = .int .u64 z ∧ 0 ≤ z ∧ z ≤ 18446744073709551615 ∧ Hid (rdL (d.data.toList.drop k) z = none)) (fun _ i => d.size - (intOf i).toNat)
  case atStart => exact ⟨0, 0, Nat.zero_le _, rfl, rfl, by omega, by omega, by show _ = _; simpa using R.out⟩
  case round =>
    obtain ⟨k, z, hk, rfl, rfl, z0, z1, Z⟩ := hrel
    by_cases hlt : k < d.size
    · have ST : Hid _ := rdL_at d k z hlt
      by_cases c1 : (d[k].toNat : Int) < 48
      · clear ST Z
        go_wp2
        exact bodyPost_ret (v := .tuple #[NB 0, .bool false]) (by rw [NB_raw_pos (by omega)]; simp [results, Tryz.results29, go_sem]) rfl ⟨rfl, by go_grown⟩
      · by_cases c2 : 57 < (d[k].toNat : Int)
        · clear ST Z
          go_wp2
          exact bodyPost_ret (v := .tuple #[NB 0, .bool false]) (by rw [NB_raw_pos (by omega)]; simp [results, Tryz.results29, go_sem]) rfl ⟨rfl, by go_grown⟩
        · by_cases c3 : (18446744073709551615 - ((d[k].toNat : Int) - 48)) / 10 < z
          · clear ST Z
            go_wp2
            exact bodyPost_ret (v := .tuple #[NB 0, .bool false]) (by rw [NB_raw_pos (by omega)]; simp [results, Tryz.results29, go_sem]) rfl ⟨rfl, by go_grown⟩
          · have NX : Hid (rdL (d.data.toList.drop (k + 1)) (z * 10 + ((d[k].toNat : Int) - 48)) = none) := by
              show _ = _
              have q := Z.out
              rwa [ST.out, if_neg c1, if_neg c2, if_neg c3] at q
            clear ST Z
            go_wp2
            go_round
            case rel =>
              go_light
              exact ⟨k + 1, z * 10 + ((d[k].toNat : Int) - 48), by omega, by go_num, rfl, by omega, by omega, NX⟩
            case measure => simp [intOf]; omega
    · exfalso
      have q := Z.out
      rw [show d.data.toList.drop k = [] from List.drop_eq_nil_of_le (by simp; omega)] at q
      cases q
theorem readNumber_empty (s d : ByteArray) (p : Bool) (w : World) (C : Hid (∀ w, Calls Tryz.prog 53 #[.string s, .string sMinus] w fun e w' => e = .returned (.tuple #[.string d, .bool p]) ∧ w' = w)) (h0 : d.size = 0) :
    Calls Tryz.prog 29 #[.string s] w fun e w' => e = .returned (.tuple #[NB 0, .bool false]) ∧ Below w.heap.size w w' := by
  have g : (d.toList == []) = true := by
    rw [beq_iff_eq, ByteArray.toList_eq]
    apply List.eq_nil_of_length_eq_zero
    rw [Array.length_toList]
    exact h0
  go_enter Tryz.func29, Tryz.ntmps29
  go_wp2_with (go_at_call 53; refine (C.out _).mono ?_; rintro e w' ⟨rfl, rfl⟩)
  exact bodyPost_ret (v := .tuple #[NB 0, .bool false]) (by rw [NB_raw_pos (by omega)]; simp [results, Tryz.results29, go_sem]) rfl ⟨rfl, by go_grown⟩
theorem readNumber_nought (s d : ByteArray) (p : Bool) (w : World) (C : Hid (∀ w, Calls Tryz.prog 53 #[.string s, .string sMinus] w fun e w' => e = .returned (.tuple #[.string d, .bool p]) ∧ w' = w)) (hd : d.size ≤ maxLen) (h0 : 0 < d.size) (hq : (d[0].toNat : Int) = 48) (hs : (s.toList == [48]) = false) :
    Calls Tryz.prog 29 #[.string s] w fun e w' => e = .returned (.tuple #[NB 0, .bool false]) ∧ Below w.heap.size w w' := by
  have hm : d.size ≤ 9223372036854775807 := hd
  have g : (d.toList == []) = false := by
    rw [beq_eq_false_iff_ne, ByteArray.toList_eq]
    intro q
    have : d.data.toList.length = 0 := by rw [q]; rfl
    rw [Array.length_toList] at this
    have e : d.data.size = d.size := rfl
    omega
  have hs2 : (s.toList != [48]) = true := by rw [bne, hs]; rfl
  go_enter Tryz.func29, Tryz.ntmps29
  go_wp2_with (go_at_call 53; refine (C.out _).mono ?_; rintro e w' ⟨rfl, rfl⟩)
  exact bodyPost_ret (v := .tuple #[NB 0, .bool false]) (by rw [NB_raw_pos (by omega)]; simp [results, Tryz.results29, go_sem]) rfl ⟨rfl, by go_grown⟩
end Go.Proofs.YtlaamkfpdompjaaGreatDoor
