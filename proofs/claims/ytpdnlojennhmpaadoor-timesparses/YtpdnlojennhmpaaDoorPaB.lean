/- What the prefixes, numbers, fractions and forms of times.Parse come to; no statement of the seat is proved here. -/
import Derived.Test.YtpdnlojennhmpaaDoorPaA
import Derived.Test.YtpdnlojennhmpaaDoorSubG
namespace Go.Proofs.YtpdnlojennhmpaaDoor
set_option linter.unusedVariables false
open Go.RowKit
/-- Does a text begin with a byte? -/
def preB (c : UInt8) (s : ByteArray) : Bool := decide (1 ≤ s.size) && ((s.extract 0 1).toList == [c])
/-- What is left behind it. -/
def aftB (c : UInt8) (s : ByteArray) : ByteArray := if preB c s then s.extract 1 s.size else s
theorem aftB_size (c : UInt8) (s : ByteArray) : (aftB c s).size ≤ s.size := by
  unfold aftB
  split
  · rw [ByteArray.size_extract]
    omega
  · exact Nat.le_refl _
theorem hasPre_of (c : UInt8) (s : ByteArray) (w : World) : Calls Tryd.prog 62 #[.string s, .string ⟨#[c]⟩] w fun e w' => e = .returned (.bool (preB c s)) ∧ w' = w := by
  unfold preB
  by_cases h : 1 ≤ s.size
  · go_enter Tryd.func62, Tryd.ntmps62
    go_wp2
    go_ret
    refine ⟨ret_bool ?_, rfl⟩
    simp [h]
    try rfl
  · go_enter Tryd.func62, Tryd.ntmps62
    go_wp2
    go_ret
    refine ⟨ret_bool ?_, rfl⟩
    simp
theorem iCutPre_of (c : UInt8) (s : ByteArray) (w : World) (hs : s.size ≤ maxLen) : Calls Tryd.prog 39 #[.string s, .string ⟨#[c]⟩] w fun e w' => e = .returned (.tuple #[.string (aftB c s), .bool (preB c s)]) ∧ w' = w := by
  have hm : s.size ≤ 9223372036854775807 := hs
  unfold aftB
  cases q : preB c s
  · have C : Hid (preB c s = false) := q
    clear q
    go_enter Tryd.func39, Tryd.ntmps39
    go_wp2_with (go_at_call 62; refine (hasPre_of _ _ _).mono ?_; rintro e w' ⟨rfl, rfl⟩; rw [C.out])
    go_returns
    exact ⟨rfl, rfl⟩
  · have C : Hid (preB c s = true) := q
    have h1 : 1 ≤ s.size := by unfold preB at q; simp at q; exact q.1
    clear q
    go_enter Tryd.func39, Tryd.ntmps39
    go_wp2_with (go_at_call 62; refine (hasPre_of _ _ _).mono ?_; rintro e w' ⟨rfl, rfl⟩; rw [C.out])
    go_returns
    exact ⟨rfl, rfl⟩
theorem cutPre_of (c : UInt8) (s : ByteArray) (w : World) (hs : s.size ≤ maxLen) : Calls Tryd.prog 14 #[.string s, .string ⟨#[c]⟩] w fun e w' => e = .returned (.tuple #[.string (aftB c s), .bool (preB c s)]) ∧ w' = w := by
  go_enter Tryd.func14, Tryd.ntmps14
  go_wp2_with (go_at_call 39; refine (iCutPre_of _ _ _ hs).mono ?_; rintro e w' ⟨rfl, rfl⟩)
  go_returns
  exact ⟨rfl, rfl⟩
theorem iTrimPre_of (c : UInt8) (s : ByteArray) (w : World) (hs : s.size ≤ maxLen) : Calls Tryd.prog 48 #[.string s, .string ⟨#[c]⟩] w fun e w' => e = .returned (.string (aftB c s)) ∧ w' = w := by
  have hm : s.size ≤ 9223372036854775807 := hs
  unfold aftB
  cases q : preB c s
  · have C : Hid (preB c s = false) := q
    clear q
    go_enter Tryd.func48, Tryd.ntmps48
    go_wp2_with (go_at_call 62; refine (hasPre_of _ _ _).mono ?_; rintro e w' ⟨rfl, rfl⟩; rw [C.out])
    go_returns
    exact ⟨rfl, rfl⟩
  · have C : Hid (preB c s = true) := q
    have h1 : 1 ≤ s.size := by unfold preB at q; simp at q; exact q.1
    clear q
    go_enter Tryd.func48, Tryd.ntmps48
    go_wp2_with (go_at_call 62; refine (hasPre_of _ _ _).mono ?_; rintro e w' ⟨rfl, rfl⟩; rw [C.out])
    go_returns
    exact ⟨rfl, rfl⟩
theorem trimPre_of (c : UInt8) (s : ByteArray) (w : World) (hs : s.size ≤ maxLen) : Calls Tryd.prog 19 #[.string s, .string ⟨#[c]⟩] w fun e w' => e = .returned (.string (aftB c s)) ∧ w' = w := by
  go_enter Tryd.func19, Tryd.ntmps19
  go_wp2_with (go_at_call 48; refine (iTrimPre_of _ _ _ hs).mono ?_; rintro e w' ⟨rfl, rfl⟩)
  go_returns
  exact ⟨rfl, rfl⟩
/-- An int that is not below 0, and whether there is one. -/
def RdI (e : Ending) : Prop := ∃ n p, e = .returned (.tuple #[.int .i64 n, .bool p]) ∧ 0 ≤ n ∧ n ≤ 9223372036854775807
theorem rdI (n : Int) (p : Bool) (h0 : 0 ≤ n) (h1 : n ≤ 9223372036854775807) : RdI (.returned (.tuple #[.int .i64 n, .bool p])) := ⟨n, p, rfl, h0, h1⟩
theorem wrap_u8_bd (n : Int) : 0 ≤ IntKind.u8.wrap n ∧ IntKind.u8.wrap n ≤ 255 := by
  rw [IntKind.wrap_u8]
  omega
/-- The number of bytes as digits, if an int has it. -/
def rnF : List UInt8 → Int → Option Int
  | [], z => some z
  | c :: l, z => if (9223372036854775807 - ((c.toNat : Int) - 48) % 256) / 10 < z then none else rnF l (z * 10 + ((c.toNat : Int) - 48) % 256)
theorem rnF_drop (s : ByteArray) (k : Nat) (z : Int) (h : k < s.size) : rnF (s.data.toList.drop k) z = if (9223372036854775807 - ((s[k].toNat : Int) - 48) % 256) / 10 < z then none else rnF (s.data.toList.drop (k + 1)) (z * 10 + ((s[k].toNat : Int) - 48) % 256) := by
  have : s.data.toList.drop k = s[k] :: s.data.toList.drop (k + 1) := by
    rw [List.drop_eq_getElem_cons (by simpa using h)]; rfl
  rw [this]; rfl
/-- What readNumber answers. -/
def rnV (s : ByteArray) : Value := match rnF s.data.toList 0 with
  | none => .tuple #[.int .i64 0, .bool false]
  | some n => .tuple #[.int .i64 n, .bool (!s.toList.isEmpty)]
set_option maxHeartbeats 1000000 in
theorem readNum_is (s : ByteArray) (w : World) (hs : s.size ≤ maxLen) : Calls Tryd.prog 47 #[.string s] w fun e w' => e = .returned (rnV s) ∧ w' = w := by
  have hm : s.size ≤ 9223372036854775807 := hs
  generalize hv : rnV s = v
  have V : Hid (rnV s = v) := hv
  clear hv
  go_enter Tryd.func47, Tryd.ntmps47
  go_wp2_with fail
  go_loop [4, 9] (fun y i => ∃ (k : Nat) (z : Int), k ≤ s.size ∧ i = .int .i64 k ∧ y = .int .i64 z ∧ 0 ≤ z ∧ z ≤ 9223372036854775807 ∧ Hid (rnF s.data.toList 0 = rnF (s.data.toList.drop k) z)) (fun _ i => s.size - (intOf i).toNat)
  case atStart => exact ⟨0, 0, Nat.zero_le _, rfl, rfl, by omega, by omega, by show _ = _; simp⟩
  case round =>
    obtain ⟨k, z, hk, rfl, rfl, z0, z1, H⟩ := hrel
    by_cases hlt : k < s.size
    · have HD : Hid _ := rnF_drop s k z hlt
      by_cases c3 : (9223372036854775807 - ((s[k].toNat : Int) - 48) % 256) / 10 < z
      · have E : Hid (v = .tuple #[.int .i64 0, .bool false]) := by
          show _ = _
          rw [← V.out, rnV, H.out, HD.out, if_pos c3]
        clear H HD
        go_wp2
        go_returns
        exact ⟨by rw [E.out]; rfl, rfl⟩
      · have E : Hid (rnF s.data.toList 0 = rnF (s.data.toList.drop (k + 1)) (z * 10 + ((s[k].toNat : Int) - 48) % 256)) := by
          show _ = _
          rw [H.out, HD.out, if_neg c3]
        clear H HD
        go_wp2
        go_round
        case rel =>
          go_light
          exact ⟨k + 1, z * 10 + ((s[k].toNat : Int) - 48) % 256, by omega, by go_num, rfl, by omega, by omega, E⟩
        case measure => simp [intOf]; omega
    · have E : Hid (v = .tuple #[.int .i64 z, .bool (!s.toList.isEmpty)]) := by
        show _ = _
        rw [← V.out, rnV, H.out, show s.data.toList.drop k = [] from List.drop_eq_nil_of_le (by simp; omega)]
        rfl
      clear H
      go_wp2
      go_returns
      exact ⟨by rw [E.out]; rfl, rfl⟩
theorem rnF_bd (l : List UInt8) : ∀ (z n : Int), 0 ≤ z → z ≤ 9223372036854775807 → rnF l z = some n → 0 ≤ n ∧ n ≤ 9223372036854775807 := by
  induction l with
  | nil => intro z n h0 h1 h; simp [rnF] at h; omega
  | cons c l ih =>
    intro z n h0 h1 h
    simp only [rnF] at h
    split at h
    · cases h
    · exact ih _ n (by omega) (by omega) h
theorem readNum_ex (s : ByteArray) (hs : s.size ≤ maxLen) : ∃ n p, (0 ≤ n ∧ n ≤ 9223372036854775807) ∧ ∀ w, Calls Tryd.prog 47 #[.string s] w fun e w' => e = .returned (.tuple #[.int .i64 n, .bool p]) ∧ w' = w := by
  cases q : rnF s.data.toList 0 with
  | none => exact ⟨0, false, by omega, fun w => by have := readNum_is s w hs; rwa [rnV, q] at this⟩
  | some n => exact ⟨n, _, rnF_bd _ 0 n (by omega) (by omega) q, fun w => by have := readNum_is s w hs; rwa [rnV, q] at this⟩
theorem mul_bd (d u : Int) (h0 : 0 ≤ d) (h1 : d ≤ 255) (u0 : 0 ≤ u) : 0 ≤ d * u ∧ d * u ≤ 255 * u := ⟨Int.mul_nonneg h0 u0, Int.mul_le_mul_of_nonneg_right h1 u0⟩
/-- How many of a unit's parts digits behind a dot say, from the last one on. -/
def rfF (u : Int) : List UInt8 → Int → Option Int
  | [], z => some z
  | c :: l, z => if (z + ((c.toNat : Int) - 48) % 256 * u) % 10 = 0 then rfF u l ((z + ((c.toNat : Int) - 48) % 256 * u) / 10) else none
theorem rfF_take (u : Int) (s : ByteArray) (j : Nat) (z : Int) (h : j < s.size) : rfF u (s.data.toList.take (j + 1)).reverse z = if (z + ((s[j].toNat : Int) - 48) % 256 * u) % 10 = 0 then rfF u (s.data.toList.take j).reverse ((z + ((s[j].toNat : Int) - 48) % 256 * u) / 10) else none := by
  have h' : j < s.data.toList.length := by simpa using h
  have e : (s.data.toList.take (j + 1)).reverse = s[j] :: (s.data.toList.take j).reverse := by
    rw [List.take_add_one, List.getElem?_eq_getElem h']
    simp
    rfl
  rw [e]; rfl
def rfV (u : Int) (s : ByteArray) : Value := match rfF u s.data.toList.reverse 0 with
  | none => .tuple #[.int .i64 0, .bool false]
  | some n => .tuple #[.int .i64 n, .bool true]
set_option maxHeartbeats 1000000 in
theorem readFrac_is (s : ByteArray) (u : Int) (w : World) (hs : s.size ≤ maxLen) (u0 : 0 ≤ u) (u1 : u ≤ 86400000000000) : Calls Tryd.prog 26 #[.string s, .int .i64 u] w fun e w' => e = .returned (rfV u s) ∧ w' = w := by
  have hm : s.size ≤ 9223372036854775807 := hs
  generalize hv : rfV u s = v
  have V : Hid (rfV u s = v) := hv
  clear hv
  go_enter Tryd.func26, Tryd.ntmps26
  go_wp2_with fail
  go_loop [6, 7] (fun y i => ∃ (k : Nat) (z : Int), k ≤ s.size ∧ i = .int .i64 ((k : Int) - 1) ∧ y = .int .i64 z ∧ 0 ≤ z ∧ z ≤ 30 * u ∧ Hid (rfF u s.data.toList.reverse 0 = rfF u (s.data.toList.take k).reverse z)) (fun _ i => (intOf i + 1).toNat)
  case atStart => exact ⟨s.size, 0, Nat.le_refl _, rfl, rfl, by omega, by omega, by show _ = _; rw [List.take_of_length_le (by simp)]⟩
  case round =>
    obtain ⟨k, z, hk, rfl, rfl, z0, z1, H⟩ := hrel
    by_cases hlt : 0 < k
    · obtain ⟨j, rfl⟩ : ∃ j, k = j + 1 := ⟨k - 1, by omega⟩
      have ej : ((j + 1 : Nat) : Int) - 1 = j := by omega
      rw [ej]
      have hM := mul_bd (((s[j].toNat : Int) - 48) % 256) u (by omega) (by omega) u0
      have HD : Hid _ := rfF_take u s j z (by omega)
      by_cases c4 : (z + ((s[j].toNat : Int) - 48) % 256 * u) % 10 = 0
      · have E : Hid (rfF u s.data.toList.reverse 0 = rfF u (s.data.toList.take j).reverse ((z + ((s[j].toNat : Int) - 48) % 256 * u) / 10)) := by
          show _ = _
          rw [H.out, HD.out, if_pos c4]
        clear H HD
        go_wp2
        go_round
        case rel =>
          go_light
          generalize ((s[j].toNat : Int) - 48) % 256 * u = m at *
          exact ⟨j, (z + m) / 10, by omega, rfl, rfl, by omega, by omega, E⟩
        case measure => simp [intOf]
      · have E : Hid (v = .tuple #[.int .i64 0, .bool false]) := by
          show _ = _
          rw [← V.out, rfV, H.out, HD.out, if_neg c4]
        clear H HD
        go_wp2
        go_returns
        exact ⟨by rw [E.out]; rfl, rfl⟩
    · have E : Hid (v = .tuple #[.int .i64 z, .bool true]) := by
        have k0 : k = 0 := by omega
        subst k0
        show _ = _
        rw [← V.out, rfV, H.out]
        simp [rfF]
      clear H
      go_wp2
      go_returns
      exact ⟨by rw [E.out]; rfl, rfl⟩
theorem rfF_bd (u : Int) (u0 : 0 ≤ u) (l : List UInt8) : ∀ (z n : Int), 0 ≤ z → z ≤ 30 * u → rfF u l z = some n → 0 ≤ n ∧ n ≤ 30 * u := by
  induction l with
  | nil => intro z n h0 h1 h; simp [rfF] at h; omega
  | cons c l ih =>
    intro z n h0 h1 h
    simp only [rfF] at h
    have hM := mul_bd (((c.toNat : Int) - 48) % 256) u (by omega) (by omega) u0
    split at h
    · exact ih _ n (by omega) (by omega) h
    · cases h
theorem readFrac_ex (s : ByteArray) (u : Int) (hs : s.size ≤ maxLen) (u0 : 0 ≤ u) (u1 : u ≤ 86400000000000) : ∃ n p, (0 ≤ n ∧ n ≤ 9223372036854775807) ∧ ∀ w, Calls Tryd.prog 26 #[.string s, .int .i64 u] w fun e w' => e = .returned (.tuple #[.int .i64 n, .bool p]) ∧ w' = w := by
  cases q : rfF u s.data.toList.reverse 0 with
  | none => exact ⟨0, false, by omega, fun w => by have := readFrac_is s u w hs u0 u1; rwa [rfV, q] at this⟩
  | some n =>
    have := rfF_bd u u0 _ 0 n (by omega) (by omega) q
    exact ⟨n, true, by omega, fun w => by have := readFrac_is s u w hs u0 u1; rwa [rfV, q] at this⟩
/-- Whether a text has a form: then it is as long. -/
def FormB (s f : ByteArray) (e : Ending) : Prop := ∃ p, e = .returned (.bool p) ∧ (p = true → s.size = f.size)
theorem formF (s f : ByteArray) : FormB s f (.returned (.bool false)) := ⟨false, rfl, fun h => by cases h⟩
set_option maxHeartbeats 1000000 in
theorem hasForm_of (s f : ByteArray) (w : World) (hs : s.size ≤ maxLen) : Calls Tryd.prog 20 #[.string s, .string f] w fun e w' => FormB s f e ∧ Below w.heap.size w w' := by
  have hm : s.size ≤ 9223372036854775807 := hs
  go_enter Tryd.func20, Tryd.ntmps20
  by_cases e : s.size = f.size
  · have e' : (s.size : Int) = f.size := by omega
    have E : Hid (s.size = f.size) := e
    clear e
    go_wp2_with fail
    go_loopw [13] (fun v wr => (∃ k : Nat, k ≤ s.size ∧ v = .int .i64 k) ∧ Below w.heap.size w wr) (fun v _ => s.size - (intOf v).toNat)
    case atStart => exact ⟨⟨0, Nat.zero_le _, rfl⟩, Below.refl _ _⟩
    case round =>
      obtain ⟨⟨k, hk, rfl⟩, hB⟩ := hrel
      have B : Hid (Below w.heap.size w wr) := hB
      clear hB
      by_cases hlt : k < s.size
      · have hlf : k < f.size := by have := E.out; omega
        have i1 : (k : Int) < s.size := by omega
        have i2 : (k : Int) < f.size := by omega
        by_cases c0 : (f[k].toNat : Int) = 48
        · cases d : digT (s[k].toNat : Int)
          · have D : Hid (∀ w, Calls Tryd.prog 25 #[.int .u8 (s[k].toNat : Int)] w fun e w' => e = .returned (.bool false) ∧ w' = w) := fun w => by
              have := isDigitT_of (s[k].toNat : Int) w
              rwa [d] at this
            clear d
            go_wp2_with fail
            refine wp_region_sub2 (by kernel_rfl) (by kernel_rfl) ?_
            intro cx
            repeat (first | go_big_quiet_skip | (go_big_quiet_want; go_big_quiet_op; first | go_big_quiet_on | (refine ⟨_, fun _ => rfl, ?_⟩; go_big_quiet_on) | go_big_quiet_call (first | (go_at_call 25; exact calls_sub_same (D.out _)))))
            refine wpQuiet_nil ?_
            rintro _ ⟨x, rfl⟩
            clear cx
            go_wp2
            go_returns
            exact ⟨formF s f, B.out.trans (x.h.mono B.out.size)⟩
          · have D : Hid (∀ w, Calls Tryd.prog 25 #[.int .u8 (s[k].toNat : Int)] w fun e w' => e = .returned (.bool true) ∧ w' = w) := fun w => by
              have := isDigitT_of (s[k].toNat : Int) w
              rwa [d] at this
            clear d
            go_wp2_with fail
            refine wp_region_sub2 (by kernel_rfl) (by kernel_rfl) ?_
            intro cx
            repeat (first | go_big_quiet_skip | (go_big_quiet_want; go_big_quiet_op; first | go_big_quiet_on | (refine ⟨_, fun _ => rfl, ?_⟩; go_big_quiet_on) | go_big_quiet_call (first | (go_at_call 25; exact calls_sub_same (D.out _)))))
            refine wpQuiet_nil ?_
            rintro _ ⟨x, rfl⟩
            clear cx
            go_wp2
            go_roundw
            case rel => exact ⟨⟨k + 1, by omega, by go_num⟩, B.out.trans (x.h.mono B.out.size)⟩
            case measure => simp [intOf]; omega
        · have c0' : ((f[k].toNat : Int) == 48) = false := by simpa using c0
          have c0'' : ((f[k].toNat : Int) != 48) = true := by simpa using c0
          have c0d : decide ((f[k].toNat : Int) = 48) = false := by simpa using c0
          by_cases c1 : (s[k].toNat : Int) = f[k].toNat
          · go_wp2_with fail
            refine wp_region_sub2 (by kernel_rfl) (by kernel_rfl) ?_
            intro cx
            repeat (first | go_big_quiet_skip | (go_big_quiet_want; go_big_quiet_op; first | go_big_quiet_on | (refine ⟨_, fun _ => rfl, ?_⟩; go_big_quiet_on) | go_big_quiet_call (first | fail)))
            refine wpQuiet_nil ?_
            rintro _ ⟨x, rfl⟩
            clear cx
            go_wp2
            go_roundw
            case rel => exact ⟨⟨k + 1, by omega, by go_num⟩, B.out.trans (x.h.mono B.out.size)⟩
            case measure => simp [intOf]; omega
          · have c1' : ((s[k].toNat : Int) == f[k].toNat) = false := by simpa using c1
            have c1'' : ((s[k].toNat : Int) != f[k].toNat) = true := by simpa using c1
            go_wp2_with fail
            refine wp_region_sub2 (by kernel_rfl) (by kernel_rfl) ?_
            intro cx
            repeat (first | go_big_quiet_skip | (go_big_quiet_want; go_big_quiet_op; first | go_big_quiet_on | (refine ⟨_, fun _ => rfl, ?_⟩; go_big_quiet_on) | go_big_quiet_call (first | fail)))
            refine wpQuiet_nil ?_
            rintro _ ⟨x, rfl⟩
            clear cx
            go_wp2
            go_returns
            exact ⟨formF s f, B.out.trans (x.h.mono B.out.size)⟩
      · go_wp2
        go_returns
        exact ⟨⟨true, rfl, fun _ => E.out⟩, B.out⟩
  · have e' : ((s.size : Int) == f.size) = false := by simp; omega
    go_wp2
    go_returns
    exact ⟨formF s f, Below.refl _ _⟩
set_option maxHeartbeats 1000000 in
theorem field_ex (s : ByteArray) (a b : Nat) (hs : s.size ≤ maxLen) (ha : a ≤ b) (hb : b ≤ s.size) : ∃ n : Int, (0 ≤ n ∧ n ≤ 9223372036854775807) ∧ ∀ w, Calls Tryd.prog 22 #[.string s, .int .i64 a, .int .i64 b] w fun e w' => e = .returned (.int .i64 n) ∧ w' = w := by
  have hm : s.size ≤ 9223372036854775807 := hs
  obtain ⟨n, p, hn, hR⟩ := readNum_ex (s.extract a b) (by rw [ByteArray.size_extract]; omega)
  refine ⟨n, hn, fun w => ?_⟩
  have R : Hid _ := hR
  clear hR
  go_enter Tryd.func22, Tryd.ntmps22
  go_wp2_with (go_at_call 47; refine (R.out _).mono ?_; rintro e w1 ⟨rfl, rfl⟩)
  go_ret
  exact ⟨rfl, rfl⟩
end Go.Proofs.YtpdnlojennhmpaaDoor
