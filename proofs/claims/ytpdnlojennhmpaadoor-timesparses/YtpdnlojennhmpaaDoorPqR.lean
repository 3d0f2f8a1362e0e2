/- What the document's digit, lower, unit, number, run, plus, common and fraction answer; no statement of the seat is proved here. -/
import Derived.Test.YtpdnlojennhmpaaDoorPqC
namespace Go.Proofs.YtpdnlojennhmpaaDoor
set_option linter.unusedVariables false
open Go.RowKit
set_option maxHeartbeats 1000000 in
theorem digitR_of (c : Int) (w : World) : Calls Tryd.prog 57 #[.int .u8 c] w fun e w' => e = .returned (.bool (digT c)) ∧ w' = w := by
  go_enter Tryd.func57, Tryd.ntmps57
  go_wp2
  all_goals
    go_ret
    refine ⟨ret_bool ?_, rfl⟩
    unfold digT
    rw [Bool.eq_iff_iff]
    simp
    omega
def lowN (c : Int) : Int := if 65 ≤ c ∧ c ≤ 90 then c + 32 else c
theorem lowerR_of (c : Int) (h0 : 0 ≤ c) (h1 : c < 256) (w : World) : Calls Tryd.prog 58 #[.int .u8 c] w fun e w' => e = .returned (.int .u8 (lowN c)) ∧ w' = w := by
  unfold lowN
  by_cases a : 65 ≤ c
  · by_cases b : c ≤ 90
    · rw [if_pos ⟨a, b⟩]
      go_enter Tryd.func58, Tryd.ntmps58
      go_wp2
      go_ret
      exact ⟨rfl, rfl⟩
    · rw [if_neg (by omega)]
      go_enter Tryd.func58, Tryd.ntmps58
      go_wp2
      go_ret
      exact ⟨rfl, rfl⟩
  · rw [if_neg (by omega)]
    go_enter Tryd.func58, Tryd.ntmps58
    go_wp2
    go_ret
    exact ⟨rfl, rfl⟩
/-- The units' names in small letters. -/
def loN (j : Nat) : List UInt8 := ([[100], [104], [109], [115], [109, 115], [117, 115], [110, 115]] : List (List UInt8)).getD j []
set_option maxHeartbeats 1000000 in
theorem unitR_of (i : Nat) (h : i < 7) (w : World) : Calls Tryd.prog 33 #[.int .i64 i] w fun e w' => e = .returned (.tuple #[.string (bl (loN i)), .int .i64 (qL i : Int), .int .i64 (pM i : Int)]) ∧ w' = w := by
  rcases (by omega : i = 0 ∨ i = 1 ∨ i = 2 ∨ i = 3 ∨ i = 4 ∨ i = 5 ∨ i = 6) with rfl | rfl | rfl | rfl | rfl | rfl | rfl
  all_goals
    go_enter Tryd.func33, Tryd.ntmps33
    go_wp2
    go_returns
    exact ⟨rfl, rfl⟩
set_option maxHeartbeats 1000000 in
theorem runR_of (s : ByteArray) (p : Nat) (hs : s.size ≤ maxLen) (hp : p ≤ s.size) (w : World) : Calls Tryd.prog 30 #[.string s, .int .i64 p] w fun e w' => e = .returned (.int .i64 ((p + runT digT (s.data.toList.drop p) : Nat) : Int)) ∧ w' = w := by
  have hm : s.size ≤ 9223372036854775807 := hs
  generalize hn : p + runT digT (s.data.toList.drop p) = N
  have HN : Hid (N = p + runT digT (s.data.toList.drop p)) := hn.symm
  clear hn
  go_enter Tryd.func30, Tryd.ntmps30
  go_wp2_with fail
  go_loop [1] (fun v => ∃ k : Nat, k ≤ s.size ∧ v = .int .i64 k ∧ Hid (N = k + runT digT (s.data.toList.drop k))) (fun v => s.size - (intOf v).toNat)
  case atStart => exact ⟨p, hp, rfl, HN⟩
  case round =>
    obtain ⟨k, h2, rfl, H⟩ := hrel
    by_cases hlt : k < s.size
    · have HD : Hid _ := runT_drop digT s k hlt
      have i1 : (k : Int) < s.size := by omega
      cases c : digT (s[k].toNat : Int)
      · have C : Hid (digT (s[k].toNat : Int) = false) := c
        clear c
        have e : k = N := by
          have a := H.out
          have b := HD.out
          rw [C.out] at b
          simp only [Bool.false_eq_true, if_false] at b
          omega
        subst e
        clear H HD HN
        go_wp2_with (go_at_call 57; refine (digitR_of _ _).mono ?_; rintro e w1 ⟨rfl, rfl⟩; rw [C.out])
        go_ret
        exact ⟨rfl, rfl⟩
      · have C : Hid (digT (s[k].toNat : Int) = true) := c
        clear c
        go_wp2_with (go_at_call 57; refine (digitR_of _ _).mono ?_; rintro e w1 ⟨rfl, rfl⟩; rw [C.out])
        go_round
        case rel =>
          refine ⟨k + 1, by omega, by go_num, ?_⟩
          have a := H.out
          have b := HD.out
          rw [C.out] at b
          simp only [if_true] at b
          show _ = _
          omega
        case measure => simp [intOf]; omega
    · have e : k = N := by
        have a := H.out
        rw [show s.data.toList.drop k = [] from List.drop_eq_nil_of_le (by simp; omega)] at a
        simp only [runT] at a
        omega
      subst e
      clear H HN
      go_wp2
      go_ret
      exact ⟨rfl, rfl⟩
set_option maxHeartbeats 1000000 in
theorem numberR_of (s : ByteArray) (w : World) (hs : s.size ≤ maxLen) : Calls Tryd.prog 31 #[.string s] w fun e w' => e = .returned (rnV s) ∧ w' = w := by
  have hm : s.size ≤ 9223372036854775807 := hs
  have em : Hid ((!s.toList.isEmpty) = decide (0 < s.size)) := by
    show _ = _
    rw [q_empty, q_size]
    cases s.data.toList with
    | nil => rfl
    | cons a l => simp
  generalize hv : rnV s = v
  have V : Hid (rnV s = v) := hv
  clear hv
  go_enter Tryd.func31, Tryd.ntmps31
  go_wp2_with fail
  go_loop [4, 5] (fun y i => ∃ (k : Nat) (z : Int), k ≤ s.size ∧ i = .int .i64 k ∧ y = .int .i64 z ∧ 0 ≤ z ∧ z ≤ 9223372036854775807 ∧ Hid (rnF s.data.toList 0 = rnF (s.data.toList.drop k) z)) (fun _ i => s.size - (intOf i).toNat)
  case atStart => exact ⟨0, 0, Nat.zero_le _, rfl, rfl, by omega, by omega, by show _ = _; simp⟩
  case round =>
    obtain ⟨k, z, hk, rfl, rfl, z0, z1, H⟩ := hrel
    by_cases hlt : k < s.size
    · have HD : Hid _ := rnF_drop s k z hlt
      have i1 : (k : Int) < s.size := by omega
      by_cases c3 : (9223372036854775807 - ((s[k].toNat : Int) - 48) % 256) / 10 < z
      · have E : Hid (v = .tuple #[.int .i64 0, .bool false]) := by
          show _ = _
          rw [← V.out, rnV, H.out, HD.out, if_pos c3]
        clear H HD
        go_wp2
        go_returns
        exact ⟨by rw [E.out]; rfl, rfl⟩
      · have E : Hid (rnF s.data.toList 0 = rnF (s.data.toList.drop (k + 1)) (10 * z + ((s[k].toNat : Int) - 48) % 256)) := by
          show _ = _
          rw [H.out, HD.out, if_neg c3, Int.mul_comm]
        clear H HD
        go_wp2
        go_round
        case rel =>
          go_light
          exact ⟨k + 1, 10 * z + ((s[k].toNat : Int) - 48) % 256, by omega, by go_num, rfl, by omega, by omega, E⟩
        case measure => simp [intOf]; omega
    · have E : Hid (v = .tuple #[.int .i64 z, .bool (decide (0 < s.size))]) := by
        show _ = _
        rw [← V.out, rnV, H.out, show s.data.toList.drop k = [] from List.drop_eq_nil_of_le (by simp; omega)]
        show Value.tuple #[.int .i64 z, .bool (!s.toList.isEmpty)] = _
        rw [em.out]
      clear H
      go_wp2
      go_returns
      exact ⟨by rw [E.out]; rfl, rfl⟩
/-- n and k more times u, if an int has it. -/
def plV (n k u : Nat) : Value := if n + k * u ≤ 9223372036854775807 then .tuple #[.int .i64 ((n + k * u : Nat) : Int), .bool true] else .tuple #[.int .i64 0, .bool false]
theorem plusR_of (n k u : Nat) (hn : n ≤ 9223372036854775807) (hk : k ≤ 9223372036854775807) (hu : u ≤ 9223372036854775807) (w : World) : Calls Tryd.prog 34 #[.int .i64 n, .int .i64 k, .int .i64 u] w fun e w' => e = .returned (plV n k u) ∧ w' = w := by
  unfold plV
  by_cases k0 : k = 0
  · subst k0
    rw [if_pos (by omega)]
    go_enter Tryd.func34, Tryd.ntmps34
    go_wp2
    go_returns
    refine ⟨?_, rfl⟩
    simp
  · have kp : (0 : Int) < k := by omega
    have eqv : (u : Int) ≤ (9223372036854775807 - (n : Int)) / k ↔ n + k * u ≤ 9223372036854775807 := by
      rw [Int.le_ediv_iff_mul_le kp]
      have e : ((k * u : Nat) : Int) = (u : Int) * k := by push_cast; exact Int.mul_comm _ _
      rw [← e]
      omega
    have tq : (9223372036854775807 - (n : Int)).tdiv k = (9223372036854775807 - (n : Int)) / k := Int.tdiv_eq_ediv_of_nonneg (by omega)
    have wq : wrap64 ((9223372036854775807 - (n : Int)) / k) = (9223372036854775807 - (n : Int)) / k := by
      have b1 : (9223372036854775807 - (n : Int)) / k ≤ 9223372036854775807 - (n : Int) := Int.ediv_le_self _ (by omega)
      have b2 : 0 ≤ (9223372036854775807 - (n : Int)) / k := Int.ediv_nonneg (by omega) (by omega)
      generalize (9223372036854775807 - (n : Int)) / k = z at *
      unfold wrap64
      omega
    by_cases g : n + k * u ≤ 9223372036854775807
    · rw [if_pos g]
      have g' := eqv.mpr g
      have e1 : wrap64 ((k : Int) * u) = (k : Int) * u := by
        have : (k : Int) * u = ((k * u : Nat) : Int) := by push_cast; rfl
        rw [this]; unfold wrap64; omega
      have e2 : wrap64 ((n : Int) + (k : Int) * u) = (n : Int) + (k : Int) * u := by
        have : (k : Int) * u = ((k * u : Nat) : Int) := by push_cast; rfl
        rw [this]; unfold wrap64; omega
      clear eqv
      go_enter Tryd.func34, Tryd.ntmps34
      go_wp2
      go_returns
      refine ⟨?_, rfl⟩
      simp
    · rw [if_neg g]
      have g' : (9223372036854775807 - (n : Int)) / k < u := by
        rcases Int.lt_or_le ((9223372036854775807 - (n : Int)) / k) u with q | q
        · exact q
        · exact absurd (eqv.mp q) g
      clear eqv
      go_enter Tryd.func34, Tryd.ntmps34
      go_wp2
      go_returns
      exact ⟨rfl, rfl⟩
set_option maxHeartbeats 1000000 in
theorem commonR_of (a b : Nat) (ha : a ≤ 9223372036854775807) (hb : b ≤ 9223372036854775807) (w : World) : Calls Tryd.prog 59 #[.int .i64 a, .int .i64 b] w fun e w' => e = .returned (.int .i64 ((Nat.gcd a b : Nat) : Int)) ∧ Below w.heap.size w w' := by
  generalize hg : Nat.gcd a b = G
  have HG : Hid (Nat.gcd a b = G) := hg
  clear hg
  go_enter Tryd.func59, Tryd.ntmps59
  go_wp2_with fail
  go_loopw [0, 1] (fun va vb wr => ∃ x y : Nat, x ≤ 9223372036854775807 ∧ y ≤ 9223372036854775807 ∧ va = .int .i64 x ∧ vb = .int .i64 y ∧ Hid (Nat.gcd x y = G) ∧ Below w.heap.size w wr) (fun _ vb _ => (intOf vb).toNat)
  case atStart => exact ⟨a, b, ha, hb, rfl, rfl, HG, Below.refl _ _⟩
  case round =>
    obtain ⟨x, y, hx, hy, rfl, rfl, H, hB⟩ := hrel
    have B : Hid (Below w.heap.size w wr) := hB
    clear hB
    by_cases y0 : 0 < y
    · have y0' : (0 : Int) < y := by omega
      have N : Hid (Nat.gcd y (x % y) = G) := by
        show _ = _
        rw [← H.out, Nat.gcd_comm x y, Nat.gcd_rec y x, Nat.gcd_comm]
      have tm : (x : Int).tmod y = ((x % y : Nat) : Int) := by
        rw [Int.tmod_eq_emod_of_nonneg (by omega)]; push_cast; rfl
      have lt := Nat.mod_lt x y0
      clear H
      go_wp2_with fail
      go_quiet (fail)
      go_wp2
      go_roundw
      case rel =>
        go_light
        exact ⟨y, x % y, by omega, by omega, rfl, by push_cast; rfl, N, by first | exact B.out | exact bdN B.out _⟩
      case measure => simp [intOf]; omega
    · have e : y = 0 := by omega
      subst e
      have E : Hid (x = G) := by show _ = _; rw [← H.out, Nat.gcd_zero_right]
      clear H
      go_wp2
      go_ret
      exact ⟨by rw [E.out]; rfl, B.out⟩
end Go.Proofs.YtpdnlojennhmpaaDoor
