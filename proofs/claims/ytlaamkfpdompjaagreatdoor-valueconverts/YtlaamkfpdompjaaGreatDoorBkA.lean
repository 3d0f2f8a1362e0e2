/- A number's text, and the number read from it again; no statement of the seat is proved here. -/
import Derived.Test.YtlaamkfpdompjaaGreatDoorCvF
namespace Go.Proofs.YtlaamkfpdompjaaGreatDoor
set_option linter.unusedVariables false
open Go.RowKit
/-- A number's text. -/
def numS (n : Int) : ByteArray := if n < 0 then ⟨#[45]⟩ ++ decS n.natAbs else decS n.natAbs
/-- The number of bytes that are digits. -/
def rdL : List UInt8 → Int → Option Int
  | [], z => some z
  | c :: l, z => if (c.toNat : Int) < 48 then none else if 57 < (c.toNat : Int) then none else if (18446744073709551615 - ((c.toNat : Int) - 48)) / 10 < z then none else rdL l (z * 10 + ((c.toNat : Int) - 48))
theorem rdL_append (a b : List UInt8) : ∀ z, rdL (a ++ b) z = (rdL a z).bind fun y => rdL b y := by
  induction a with
  | nil => intro z; rfl
  | cons c a ih =>
    intro z
    simp only [List.cons_append, rdL]
    repeat' split
    all_goals first | rfl | exact ih _
theorem rdL_dec (u : Nat) : u < 18446744073709551616 → rdL (Lib.decDigits u) 0 = some (u : Int) := by
  induction u using Nat.strongRecOn with
  | _ u ih =>
    intro hu
    by_cases h : u < 10
    · rw [Lib.decDigits_one h]
      have e : (UInt8.ofNat (48 + u)).toNat = 48 + u := by simp; omega
      simp only [rdL, e]
      rw [if_neg (by omega), if_neg (by omega), if_neg (by omega)]
      congr 1
      omega
    · have e : Lib.decDigits u = Lib.decDigits (u / 10) ++ [UInt8.ofNat (48 + u % 10)] := by
        rw [Lib.decDigits, dif_neg h]
      rw [e, rdL_append, ih (u / 10) (by omega) (by omega)]
      have e2 : (UInt8.ofNat (48 + u % 10)).toNat = 48 + u % 10 := by simp; omega
      simp only [Option.bind_some, rdL, e2]
      rw [if_neg (by omega), if_neg (by omega), if_neg (by omega)]
      congr 1
      omega
theorem dec_first (u : Nat) : u < 18446744073709551616 → u ≠ 0 → ∃ c l, Lib.decDigits u = c :: l ∧ c.toNat ≠ 48 := by
  induction u using Nat.strongRecOn with
  | _ u ih =>
    intro hu h0
    by_cases h : u < 10
    · rw [Lib.decDigits_one h]
      refine ⟨_, _, rfl, ?_⟩
      have e : (UInt8.ofNat (48 + u)).toNat = 48 + u := by simp; omega
      omega
    · have e : Lib.decDigits u = Lib.decDigits (u / 10) ++ [UInt8.ofNat (48 + u % 10)] := by
        rw [Lib.decDigits, dif_neg h]
      obtain ⟨c, l, e2, h2⟩ := ih (u / 10) (by omega) (by omega) (by omega)
      exact ⟨c, l ++ [UInt8.ofNat (48 + u % 10)], by rw [e, e2]; rfl, h2⟩
theorem dec_head (u : Nat) (hu : u < 18446744073709551616) : ∃ c l, Lib.decDigits u = c :: l ∧ 48 ≤ c.toNat ∧ c.toNat ≤ 57 := by
  have r := rdL_dec u hu
  cases q : Lib.decDigits u with
  | nil =>
    have := Lib.decDigits_length u
    rw [q] at this
    by_cases h : u < 10
    · rw [Lib.decDigits_one h] at q
      cases q
    · rw [Lib.decDigits, dif_neg h] at q
      simp at q
  | cons c l =>
    refine ⟨c, l, rfl, ?_⟩
    rw [q] at r
    simp only [rdL] at r
    split at r
    · cases r
    · split at r
      · cases r
      · omega
theorem rdL_step (d : ByteArray) (k : Nat) (z u : Int) (h : k < d.size) (r : rdL (d.data.toList.drop k) z = some u) : 48 ≤ (d[k].toNat : Int) ∧ (d[k].toNat : Int) ≤ 57 ∧ z ≤ (18446744073709551615 - ((d[k].toNat : Int) - 48)) / 10 ∧ rdL (d.data.toList.drop (k + 1)) (z * 10 + ((d[k].toNat : Int) - 48)) = some u := by
  have e : d.data.toList.drop k = d[k] :: d.data.toList.drop (k + 1) := by
    rw [List.drop_eq_getElem_cons (by simpa using h)]; rfl
  rw [e] at r
  simp only [rdL] at r
  split at r
  · cases r
  · split at r
    · cases r
    · split at r
      · cases r
      · exact ⟨by omega, by omega, by omega, r⟩
set_option maxHeartbeats 2000000 in
theorem readNumber_rd (s d : ByteArray) (p : Bool) (u : Int) (w : World) (C : Hid (∀ w, Calls Tryz.prog 53 #[.string s, .string sMinus] w fun e w' => e = .returned (.tuple #[.string d, .bool p]) ∧ w' = w)) (hd : d.size ≤ maxLen) (h0 : 0 < d.size)
    (hq : (d[0].toNat : Int) ≠ 48 ∨ (s.toList == [48]) = true) (R : Hid (rdL d.data.toList 0 = some u)) (hP : p = true → 1 ≤ u) :
    Calls Tryz.prog 29 #[.string s] w fun e w' => e = .returned (.tuple #[NB (sgn p u), .bool true]) ∧ Below w.heap.size w w' := by
  have hm : d.size ≤ 9223372036854775807 := hd
  unfold sgn
  have g : (d.toList == []) = false := by
    rw [beq_eq_false_iff_ne, ByteArray.toList_eq]
    intro q
    have : d.data.toList.length = 0 := by rw [q]; rfl
    rw [Array.length_toList] at this
    have e : d.data.size = d.size := rfl
    omega
  go_enter Tryz.func29, Tryz.ntmps29
  rcases hq with q0 | q1
  · have q0' : ((d[0].toNat : Int) == 48) = false := by simpa using q0
    have X : Unit := ()
    cases X with
    | unit =>
        go_wp2_with (go_at_call 53; refine (C.out _).mono ?_; rintro e w' ⟨rfl, rfl⟩)
        go_loop [6, 28] (fun sz i => ∃ (k : Nat) (z : Int), k ≤ d.size ∧ i = .int .i64 k ∧ sz = .int .u64 z ∧ 0 ≤ z ∧ z ≤ 18446744073709551615 ∧ Hid (rdL (d.data.toList.drop k) z = some u)) (fun _ i => d.size - (intOf i).toNat)
        case atStart => exact ⟨0, 0, Nat.zero_le _, rfl, rfl, by omega, by omega, by show _ = _; simpa using R.out⟩
        case round =>
          obtain ⟨k, z, hk, rfl, rfl, z0, z1, Z⟩ := hrel
          by_cases hlt : k < d.size
          · obtain ⟨c1, c2, c3, zn⟩ := rdL_step d k z u hlt Z.out
            have Z2 : Hid _ := zn
            clear Z zn
            go_wp2
            go_round
            case rel =>
              go_light
              exact ⟨k + 1, z * 10 + ((d[k].toNat : Int) - 48), by omega, by go_num, rfl, by omega, by omega, Z2⟩
            case measure => simp [intOf]; omega
          · have e : z = u := by
              have q := Z.out
              rw [show d.data.toList.drop k = [] from List.drop_eq_nil_of_le (by simp; omega)] at q
              simp [rdL] at q
              exact q
            clear Z
            subst e
            cases p
            · go_wp2
              exact bodyPost_ret (v := .tuple #[NB z, .bool true]) (by rw [NB_raw_pos z0]; simp [results, Tryz.results29, go_sem]) rfl ⟨rfl, by go_grown⟩
            · have z2 := hP rfl
              go_wp2
              exact bodyPost_ret (v := .tuple #[NB (-z), .bool true]) (by rw [NB_raw_neg (by omega : -z < 0), show ((-z).natAbs : Int) = z by omega]; simp [results, Tryz.results29, go_sem]) rfl ⟨rfl, by go_grown⟩
  · by_cases q0 : (d[0].toNat : Int) = 48
    case pos =>
        go_wp2_with (go_at_call 53; refine (C.out _).mono ?_; rintro e w' ⟨rfl, rfl⟩)
        go_loop [6, 28] (fun sz i => ∃ (k : Nat) (z : Int), k ≤ d.size ∧ i = .int .i64 k ∧ sz = .int .u64 z ∧ 0 ≤ z ∧ z ≤ 18446744073709551615 ∧ Hid (rdL (d.data.toList.drop k) z = some u)) (fun _ i => d.size - (intOf i).toNat)
        case atStart => exact ⟨0, 0, Nat.zero_le _, rfl, rfl, by omega, by omega, by show _ = _; simpa using R.out⟩
        case round =>
          obtain ⟨k, z, hk, rfl, rfl, z0, z1, Z⟩ := hrel
          by_cases hlt : k < d.size
          · obtain ⟨c1, c2, c3, zn⟩ := rdL_step d k z u hlt Z.out
            have Z2 : Hid _ := zn
            clear Z zn
            go_wp2
            go_round
            case rel =>
              go_light
              exact ⟨k + 1, z * 10 + ((d[k].toNat : Int) - 48), by omega, by go_num, rfl, by omega, by omega, Z2⟩
            case measure => simp [intOf]; omega
          · have e : z = u := by
              have q := Z.out
              rw [show d.data.toList.drop k = [] from List.drop_eq_nil_of_le (by simp; omega)] at q
              simp [rdL] at q
              exact q
            clear Z
            subst e
            cases p
            · go_wp2
              exact bodyPost_ret (v := .tuple #[NB z, .bool true]) (by rw [NB_raw_pos z0]; simp [results, Tryz.results29, go_sem]) rfl ⟨rfl, by go_grown⟩
            · have z2 := hP rfl
              go_wp2
              exact bodyPost_ret (v := .tuple #[NB (-z), .bool true]) (by rw [NB_raw_neg (by omega : -z < 0), show ((-z).natAbs : Int) = z by omega]; simp [results, Tryz.results29, go_sem]) rfl ⟨rfl, by go_grown⟩
    case neg =>
        go_wp2_with (go_at_call 53; refine (C.out _).mono ?_; rintro e w' ⟨rfl, rfl⟩)
        go_loop [6, 28] (fun sz i => ∃ (k : Nat) (z : Int), k ≤ d.size ∧ i = .int .i64 k ∧ sz = .int .u64 z ∧ 0 ≤ z ∧ z ≤ 18446744073709551615 ∧ Hid (rdL (d.data.toList.drop k) z = some u)) (fun _ i => d.size - (intOf i).toNat)
        case atStart => exact ⟨0, 0, Nat.zero_le _, rfl, rfl, by omega, by omega, by show _ = _; simpa using R.out⟩
        case round =>
          obtain ⟨k, z, hk, rfl, rfl, z0, z1, Z⟩ := hrel
          by_cases hlt : k < d.size
          · obtain ⟨c1, c2, c3, zn⟩ := rdL_step d k z u hlt Z.out
            have Z2 : Hid _ := zn
            clear Z zn
            go_wp2
            go_round
            case rel =>
              go_light
              exact ⟨k + 1, z * 10 + ((d[k].toNat : Int) - 48), by omega, by go_num, rfl, by omega, by omega, Z2⟩
            case measure => simp [intOf]; omega
          · have e : z = u := by
              have q := Z.out
              rw [show d.data.toList.drop k = [] from List.drop_eq_nil_of_le (by simp; omega)] at q
              simp [rdL] at q
              exact q
            clear Z
            subst e
            cases p
            · go_wp2
              exact bodyPost_ret (v := .tuple #[NB z, .bool true]) (by rw [NB_raw_pos z0]; simp [results, Tryz.results29, go_sem]) rfl ⟨rfl, by go_grown⟩
            · have z2 := hP rfl
              go_wp2
              exact bodyPost_ret (v := .tuple #[NB (-z), .bool true]) (by rw [NB_raw_neg (by omega : -z < 0), show ((-z).natAbs : Int) = z by omega]; simp [results, Tryz.results29, go_sem]) rfl ⟨rfl, by go_grown⟩
end Go.Proofs.YtlaamkfpdompjaaGreatDoor
