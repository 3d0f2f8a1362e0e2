/- Numbers to texts and back, by value's conversions; no statement of the seat is proved here. -/
import Derived.Test.YtlaamkfpdompjaaGreatDoorBkA
namespace Go.Proofs.YtlaamkfpdompjaaGreatDoor
set_option linter.unusedVariables false
open Go.RowKit
theorem ba_ext {a b : ByteArray} (h : a.data.toList = b.data.toList) : a = b := by
  cases a with | mk x => cases b with | mk y => cases x; cases y; simp at h; rw [h]
theorem first_of (x : ByteArray) (c : UInt8) (l : List UInt8) (h : 0 < x.size) (hx : x.data.toList = c :: l) : x[0] = c := by
  have : x.data.toList[0]? = some c := by rw [hx]; rfl
  rw [Array.getElem?_toList, Array.getElem?_eq_getElem h] at this
  exact Option.some.inj this
theorem numS_size (n : Int) (h0 : -18446744073709551616 < n) (h1 : n < 18446744073709551616) : (numS n).size ≤ 21 := by
  have := decS_size n.natAbs (by omega)
  unfold numS
  split
  · rw [ByteArray.size_append]
    have e : (⟨#[45]⟩ : ByteArray).size = 1 := rfl
    omega
  · omega
theorem decS_list (u : Nat) : (decS u).data.toList = Lib.decDigits u := by
  unfold decS
  simp
theorem numS_neg (n : Int) (h : n < 0) : minB (numS n) = true ∧ aftS (numS n) = decS n.natAbs := by
  have e : (numS n).data.toList = 45 :: (decS n.natAbs).data.toList := by
    unfold numS
    rw [if_pos h]
    simp [ByteArray.data_append]
  have sz : (numS n).size = (decS n.natAbs).size + 1 := by
    have := congrArg List.length e
    simpa using this
  have m : minB (numS n) = true := by
    unfold minB
    rw [decide_eq_true (by omega : 1 ≤ (numS n).size), ByteArray.toList_eq, ByteArray.data_extract]
    simp [e]
  refine ⟨m, ?_⟩
  unfold aftS
  rw [m]
  apply ba_ext
  simp only [if_true]
  rw [ByteArray.data_extract]
  simp [e, sz]
  exact List.take_of_length_le (by simp)
theorem numS_pos (n : Int) (h : 0 ≤ n) (h1 : n < 18446744073709551616) : minB (numS n) = false ∧ aftS (numS n) = decS n.natAbs := by
  have e : numS n = decS n.natAbs := by
    unfold numS
    rw [if_neg (by omega)]
  obtain ⟨c, l, q, c0, c1⟩ := dec_head n.natAbs (by omega)
  have m : minB (numS n) = false := by
    rw [e]
    unfold minB
    rw [ByteArray.toList_eq, ByteArray.data_extract]
    simp [decS_list, q]
    intro _ hc
    rw [hc] at c0
    simp at c0
  refine ⟨m, ?_⟩
  unfold aftS
  rw [m, e]
  rfl
theorem readNumber_num (n : Int) (w : World) (h0 : -18446744073709551616 < n) (h1 : n < 18446744073709551616) : Calls Tryz.prog 29 #[.string (numS n)] w fun e w' => e = .returned (.tuple #[NB n, .bool true]) ∧ Below w.heap.size w w' := by
  have hu : n.natAbs < 18446744073709551616 := by omega
  have sz := numS_size n h0 h1
  have hs : (numS n).size ≤ maxLen := by unfold maxLen; omega
  have ds := decS_size n.natAbs hu
  obtain ⟨c, l, q, c0, c1⟩ := dec_head n.natAbs hu
  have hl : (decS n.natAbs).data.toList = c :: l := by rw [decS_list, q]
  have d0 : 0 < (decS n.natAbs).size := by
    have := congrArg List.length hl
    simp at this
    have e : (decS n.natAbs).data.size = (decS n.natAbs).size := rfl
    omega
  have hc : (decS n.natAbs)[0] = c := first_of _ c l d0 hl
  have R : rdL (decS n.natAbs).data.toList 0 = some (n.natAbs : Int) := by rw [decS_list]; exact rdL_dec _ hu
  by_cases hn : n < 0
  · obtain ⟨m, a⟩ := numS_neg n hn
    have C := fun w => CutPrefix_of (numS n) w hs
    rw [m, a] at C
    obtain ⟨c', l', q', n48⟩ := dec_first n.natAbs hu (by omega)
    have := readNumber_rd (numS n) (decS n.natAbs) true n.natAbs w C (by unfold maxLen; omega) d0 (Or.inl (by rw [hc]; rw [q] at q'; injection q' with e1 _; subst e1; omega)) R (fun _ => by omega)
    rwa [show sgn true (n.natAbs : Int) = n by unfold sgn; simp; omega] at this
  · obtain ⟨m, a⟩ := numS_pos n (by omega) h1
    have C := fun w => CutPrefix_of (numS n) w hs
    rw [m, a] at C
    have hq : ((decS n.natAbs)[0].toNat : Int) ≠ 48 ∨ ((numS n).toList == [48]) = true := by
      by_cases z : n = 0
      · right
        subst z
        have : Lib.decDigits 0 = [48] := by rw [Lib.decDigits_one (by omega)]; rfl
        rw [ByteArray.toList_eq]
        unfold numS
        rw [if_neg (by omega), decS_list]
        simp [this]
      · left
        obtain ⟨c', l', q', n48⟩ := dec_first n.natAbs hu (by omega)
        rw [hc]
        rw [q] at q'
        injection q' with e1 _
        subst e1
        omega
    have := readNumber_rd (numS n) (decS n.natAbs) false n.natAbs w C (by unfold maxLen; omega) d0 hq R (fun h => by cases h)
    rwa [show sgn false (n.natAbs : Int) = n by unfold sgn; simp; omega] at this
set_option maxHeartbeats 1000000 in
theorem printNumber_is (n : Int) (w : World) (hP : Pow w) (h0 : -18446744073709551616 < n) (h1 : n < 18446744073709551616) :
    Calls Tryz.prog 58 #[NB n] w fun e w' => e = .returned (.string (numS n)) ∧ Below w.heap.size w w' := by
  have hu : n.natAbs < 18446744073709551616 := by omega
  have F : Hid (∀ o, Calls Tryz.prog 62 #[.int .u64 (n.natAbs : Nat), .int .i64 10] (w.alloc o) fun e w' => e = .returned (.string (decS n.natAbs)) ∧ Below (w.alloc o).heap.size (w.alloc o) w') :=
    fun o => FormatUint_of n.natAbs hu _ (pow_below hP ((Below.refl _ _).alloc (Nat.le_refl _) o))
  have S := decS_size n.natAbs hu
  clear hP
  unfold numS
  by_cases hn : n < 0
  · rw [NB_raw_neg hn, if_pos hn]
    generalize decS n.natAbs = t at *
    go_enter Tryz.func58, Tryz.ntmps58
    go_wp2_with (go_at_call 62; refine (F.out _).mono ?_; rintro e w' ⟨rfl, hb⟩)
    go_ret
    exact ⟨rfl, ((Below.refl _ _).alloc (Nat.le_refl _) _).trans (hb.mono (by simp))⟩
  · rw [if_neg hn, NB_raw_pos (by omega)]
    have e : (n : Int) = (n.natAbs : Int) := by omega
    generalize hg : n.natAbs = u at *
    rw [e]
    generalize decS u = t at *
    go_enter Tryz.func58, Tryz.ntmps58
    go_wp2_with (go_at_call 62; refine (F.out _).mono ?_; rintro e w' ⟨rfl, hb⟩)
    go_ret
    exact ⟨rfl, ((Below.refl _ _).alloc (Nat.le_refl _) _).trans (hb.mono (by simp))⟩
end Go.Proofs.YtlaamkfpdompjaaGreatDoor
