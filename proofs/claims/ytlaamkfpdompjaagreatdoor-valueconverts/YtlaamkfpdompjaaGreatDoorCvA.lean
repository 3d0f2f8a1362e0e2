/- What value.readNumber answers: a number, if any; no statement of the seat is proved here. -/
import Derived.Test.YtlaamkfpdompjaaGreatDoorFitted
import Derived.Handy
import Derived.Deep.Light
namespace Go.Proofs.YtlaamkfpdompjaaGreatDoor
set_option linter.unusedVariables false
open Go.RowKit
def sMinus : ByteArray := ⟨#[45]⟩
/-- Does a text begin with a minus sign? -/
def minB (s : ByteArray) : Bool := decide (1 ≤ s.size) && ((s.extract 0 1).toList == [45])
theorem iHasPrefix_of (s : ByteArray) (w : World) : Calls Tryz.prog 74 #[.string s, .string sMinus] w fun e w' => e = .returned (.bool (minB s)) ∧ w' = w := by
  unfold minB sMinus
  by_cases h : 1 ≤ s.size
  · go_enter Tryz.func74, Tryz.ntmps74
    go_wp2
    go_ret
    refine ⟨ret_bool ?_, rfl⟩
    simp [h]
    try rfl
  · go_enter Tryz.func74, Tryz.ntmps74
    go_wp2
    go_ret
    refine ⟨ret_bool ?_, rfl⟩
    simp
/-- What is left behind it. -/
def aftS (s : ByteArray) : ByteArray := if minB s then s.extract 1 s.size else s
theorem iCutPrefix_of (s : ByteArray) (w : World) (hs : s.size ≤ maxLen) : Calls Tryz.prog 64 #[.string s, .string sMinus] w fun e w' => e = .returned (.tuple #[.string (aftS s), .bool (minB s)]) ∧ w' = w := by
  have hm : s.size ≤ 9223372036854775807 := hs
  unfold aftS
  cases c : minB s
  · have C : Hid (minB s = false) := c
    clear c
    go_enter Tryz.func64, Tryz.ntmps64
    go_wp2_with (go_at_call 74; refine (iHasPrefix_of _ _).mono ?_; rintro e w' ⟨rfl, rfl⟩; rw [C.out])
    go_returns
    exact ⟨rfl, rfl⟩
  · have C : Hid (minB s = true) := c
    have h1 : 1 ≤ s.size := by unfold minB at c; simp at c; exact c.1
    have hl : sMinus.size = 1 := rfl
    clear c
    go_enter Tryz.func64, Tryz.ntmps64
    go_wp2_with (go_at_call 74; refine (iHasPrefix_of _ _).mono ?_; rintro e w' ⟨rfl, rfl⟩; rw [C.out])
    go_returns
    exact ⟨rfl, rfl⟩
theorem CutPrefix_of (s : ByteArray) (w : World) (hs : s.size ≤ maxLen) : Calls Tryz.prog 53 #[.string s, .string sMinus] w fun e w' => e = .returned (.tuple #[.string (aftS s), .bool (minB s)]) ∧ w' = w := by
  go_enter Tryz.func53, Tryz.ntmps53
  go_wp2_with (go_at_call 64; refine (iCutPrefix_of _ _ hs).mono ?_; rintro e w' ⟨rfl, rfl⟩)
  go_returns
  exact ⟨rfl, rfl⟩
theorem min_not0 (s : ByteArray) (h : minB s = true) : (s.toList == [48]) = false := by
  rw [beq_eq_false_iff_ne, ByteArray.toList_eq]
  intro q
  have e : s = ⟨#[48]⟩ := by cases s with | mk d => cases d; simp at q; rw [q]
  subst e
  have : minB ⟨#[48]⟩ = false := by kernel_rfl
  rw [this] at h
  cases h
theorem aft_size (s : ByteArray) : (aftS s).size ≤ s.size := by
  unfold aftS
  split
  · rw [ByteArray.size_extract]
    omega
  · exact Nat.le_refl _
/-- A number, and whether there is one. -/
def RdN (e : Ending) : Prop := ∃ n p, e = .returned (.tuple #[NB n, .bool p]) ∧ -18446744073709551616 < n ∧ n < 18446744073709551616
theorem rd_zero : NB 0 = .agg #[.bool false, .int .u64 0] := NB_raw_pos (by omega)
set_option maxHeartbeats 2000000 in
theorem readNumber_of (s : ByteArray) (w : World) (hs : s.size ≤ maxLen) : Calls Tryz.prog 29 #[.string s] w fun e w' => RdN e ∧ Below w.heap.size w w' := by
  have hd : (aftS s).size ≤ maxLen := Nat.le_trans (aft_size s) hs
  have hM : minB s = true → (s.toList == [48]) = false := min_not0 s
  have C : Hid _ := fun w => CutPrefix_of s w hs
  generalize minB s = p at *
  generalize aftS s = d at *
  have hm : d.size ≤ 9223372036854775807 := hd
  go_enter Tryz.func29, Tryz.ntmps29
  by_cases hz : d.size = 0
  · have e : d = ⟨#[]⟩ := by
      cases d with
      | mk a => rw [Array.size_eq_zero_iff.1 hz]
    subst e
    go_wp2_with (go_at_call 53; refine (C.out _).mono ?_; rintro e w' ⟨rfl, rfl⟩)
    exact bodyPost_ret (v := .tuple #[NB 0, .bool false]) (by rw [rd_zero]; simp [results, Tryz.results29, go_sem]) rfl ⟨⟨0, false, rfl, by omega, by omega⟩, (Below.refl _ _).alloc (Nat.le_refl _) _⟩
  · have g : (d.toList == []) = false := by
      rw [beq_eq_false_iff_ne, ByteArray.toList_eq]
      intro q
      have : d.data.toList.length = 0 := by rw [q]; rfl
      rw [Array.length_toList] at this
      exact hz this
    have h0 : 0 < d.size := by omega
    by_cases hq : (d[0].toNat : Int) = 48 ∧ (s.toList == [48]) = false
    · have q1 := hq.1
      have q2 := hq.2
      clear hq
      go_wp2_with (go_at_call 53; refine (C.out _).mono ?_; rintro e w' ⟨rfl, rfl⟩)
      exact bodyPost_ret (v := .tuple #[NB 0, .bool false]) (by rw [rd_zero]; simp [results, Tryz.results29, go_sem]) rfl ⟨⟨0, false, rfl, by omega, by omega⟩, (Below.refl _ _).alloc (Nat.le_refl _) _⟩
    · have hP : p = true → (d[0].toNat : Int) ≠ 48 := fun h e => hq ⟨e, hM h⟩
      have hq' : (d[0].toNat : Int) = 48 → (s.toList == [48]) = true := by
        intro e
        cases f : (s.toList == [48])
        · exact absurd ⟨e, f⟩ hq
        · rfl
      clear hq hM
      by_cases q0 : (d[0].toNat : Int) = 48
      · have q1 := hq' q0
        go_wp2_with (go_at_call 53; refine (C.out _).mono ?_; rintro e w' ⟨rfl, rfl⟩)
        go_loop [6, 28] (fun sz i => ∃ (k : Nat) (z : Int), k ≤ d.size ∧ i = .int .i64 k ∧ sz = .int .u64 z ∧ 0 ≤ z ∧ z ≤ 18446744073709551615 ∧ Hid (p = true → 1 ≤ k → 1 ≤ z)) (fun _ i => d.size - (intOf i).toNat)
        case atStart => exact ⟨0, 0, Nat.zero_le _, rfl, rfl, by omega, by omega, fun _ h => by omega⟩
        case round =>
          obtain ⟨k, z, hk, rfl, rfl, z0, z1, Z⟩ := hrel
          by_cases hlt : k < d.size
          · by_cases c1 : (d[k].toNat : Int) < 48
            · go_wp2
              exact bodyPost_ret (v := .tuple #[NB 0, .bool false]) (by rw [rd_zero]; simp [results, Tryz.results29, go_sem]) rfl ⟨⟨0, false, rfl, by omega, by omega⟩, (Below.refl _ _).alloc (Nat.le_refl _) _⟩
            · by_cases c2 : 57 < (d[k].toNat : Int)
              · go_wp2
                exact bodyPost_ret (v := .tuple #[NB 0, .bool false]) (by rw [rd_zero]; simp [results, Tryz.results29, go_sem]) rfl ⟨⟨0, false, rfl, by omega, by omega⟩, (Below.refl _ _).alloc (Nat.le_refl _) _⟩
              · by_cases c3 : (18446744073709551615 - ((d[k].toNat : Int) - 48)) / 10 < z
                · go_wp2
                  exact bodyPost_ret (v := .tuple #[NB 0, .bool false]) (by rw [rd_zero]; simp [results, Tryz.results29, go_sem]) rfl ⟨⟨0, false, rfl, by omega, by omega⟩, (Below.refl _ _).alloc (Nat.le_refl _) _⟩
                · go_wp2
                  go_round
                  case rel =>
                    go_light
                    refine ⟨k + 1, z * 10 + ((d[k].toNat : Int) - 48), by omega, by go_num, rfl, by omega, by omega, ?_⟩
                    intro hp _
                    have zz := Z.out hp
                    rcases Nat.eq_zero_or_pos k with rfl | k1
                    · have := hP hp
                      omega
                    · have := zz k1
                      omega
                  case measure => simp [intOf]; omega
          · have e : k = d.size := by omega
            have Z' : Hid (p = true → 1 ≤ z) := fun h => Z.out h (by omega)
            clear Z
            subst e
            cases p
            · go_wp2
              exact bodyPost_ret (v := .tuple #[NB z, .bool true]) (by rw [NB_raw_pos z0]; simp [results, Tryz.results29, go_sem]) rfl ⟨⟨z, true, rfl, by omega, by omega⟩, by go_grown⟩
            · have z2 := Z'.out rfl
              go_wp2
              exact bodyPost_ret (v := .tuple #[NB (-z), .bool true]) (by rw [NB_raw_neg (by omega : -z < 0), show ((-z).natAbs : Int) = z by omega]; simp [results, Tryz.results29, go_sem]) rfl ⟨⟨-z, true, rfl, by omega, by omega⟩, by go_grown⟩
      · go_wp2_with (go_at_call 53; refine (C.out _).mono ?_; rintro e w' ⟨rfl, rfl⟩)
        go_loop [6, 28] (fun sz i => ∃ (k : Nat) (z : Int), k ≤ d.size ∧ i = .int .i64 k ∧ sz = .int .u64 z ∧ 0 ≤ z ∧ z ≤ 18446744073709551615 ∧ Hid (p = true → 1 ≤ k → 1 ≤ z)) (fun _ i => d.size - (intOf i).toNat)
        case atStart => exact ⟨0, 0, Nat.zero_le _, rfl, rfl, by omega, by omega, fun _ h => by omega⟩
        case round =>
          obtain ⟨k, z, hk, rfl, rfl, z0, z1, Z⟩ := hrel
          by_cases hlt : k < d.size
          · by_cases c1 : (d[k].toNat : Int) < 48
            · go_wp2
              exact bodyPost_ret (v := .tuple #[NB 0, .bool false]) (by rw [rd_zero]; simp [results, Tryz.results29, go_sem]) rfl ⟨⟨0, false, rfl, by omega, by omega⟩, (Below.refl _ _).alloc (Nat.le_refl _) _⟩
            · by_cases c2 : 57 < (d[k].toNat : Int)
              · go_wp2
                exact bodyPost_ret (v := .tuple #[NB 0, .bool false]) (by rw [rd_zero]; simp [results, Tryz.results29, go_sem]) rfl ⟨⟨0, false, rfl, by omega, by omega⟩, (Below.refl _ _).alloc (Nat.le_refl _) _⟩
              · by_cases c3 : (18446744073709551615 - ((d[k].toNat : Int) - 48)) / 10 < z
                · go_wp2
                  exact bodyPost_ret (v := .tuple #[NB 0, .bool false]) (by rw [rd_zero]; simp [results, Tryz.results29, go_sem]) rfl ⟨⟨0, false, rfl, by omega, by omega⟩, (Below.refl _ _).alloc (Nat.le_refl _) _⟩
                · go_wp2
                  go_round
                  case rel =>
                    go_light
                    refine ⟨k + 1, z * 10 + ((d[k].toNat : Int) - 48), by omega, by go_num, rfl, by omega, by omega, ?_⟩
                    intro hp _
                    have zz := Z.out hp
                    rcases Nat.eq_zero_or_pos k with rfl | k1
                    · have := hP hp
                      omega
                    · have := zz k1
                      omega
                  case measure => simp [intOf]; omega
          · have e : k = d.size := by omega
            have Z' : Hid (p = true → 1 ≤ z) := fun h => Z.out h (by omega)
            clear Z
            subst e
            cases p
            · go_wp2
              exact bodyPost_ret (v := .tuple #[NB z, .bool true]) (by rw [NB_raw_pos z0]; simp [results, Tryz.results29, go_sem]) rfl ⟨⟨z, true, rfl, by omega, by omega⟩, by go_grown⟩
            · have z2 := Z'.out rfl
              go_wp2
              exact bodyPost_ret (v := .tuple #[NB (-z), .bool true]) (by rw [NB_raw_neg (by omega : -z < 0), show ((-z).natAbs : Int) = z by omega]; simp [results, Tryz.results29, go_sem]) rfl ⟨⟨-z, true, rfl, by omega, by omega⟩, by go_grown⟩
end Go.Proofs.YtlaamkfpdompjaaGreatDoor
