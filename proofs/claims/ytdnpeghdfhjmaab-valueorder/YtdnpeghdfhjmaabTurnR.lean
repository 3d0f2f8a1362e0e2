/- What the document's Turn answers, for every operation and value; no statement of the seat is proved here. -/
import Derived.Test.YtdnpeghdfhjmaabTurnB
namespace Go.Proofs.Ytdnpeghdfhjmaab
set_option linter.unusedVariables false
open Go.RowKit
abbrev ZC (u : TypeId) : Obj := .cells #[.int .u8 0, .int .u64 0, .string ⟨#[]⟩] u
theorem step_box3 {w w1 : World} {k b : Int} {s : ByteArray} {t u v : TypeId}
    (hb : Below (((w.alloc (.cells #[.int .u8 k, .int .u64 b, .string s] t)).alloc (ZC u)).alloc (ZC v)).heap.size (((w.alloc (.cells #[.int .u8 k, .int .u64 b, .string s] t)).alloc (ZC u)).alloc (ZC v)) w1) :
    w.heap.size < w1.heap.size ∧ w.heap.size + 1 < w1.heap.size ∧ w1.cell? ⟨w.heap.size, 0, none⟩ = some (.int .u8 k) ∧ w1.cell? ⟨w.heap.size, 1, none⟩ = some (.int .u64 b) ∧ w1.cell? ⟨w.heap.size, 2, none⟩ = some (.string s) ∧
    w1.cell? ⟨w.heap.size + 1, 0, none⟩ = some (.int .u8 0) ∧ w1.cell? ⟨w.heap.size + 1, 1, none⟩ = some (.int .u64 0) ∧ w1.cell? ⟨w.heap.size + 1, 2, none⟩ = some (.string ⟨#[]⟩) ∧
    (∀ o, w1.frozen? ⟨w.heap.size + 1, o, none⟩ = false) ∧ Below w.heap.size w w1 ∧ w.heap.size + 1 + 1 < w1.heap.size ∧
    w1.cell? ⟨w.heap.size + 1 + 1, 0, none⟩ = some (.int .u8 0) ∧ w1.cell? ⟨w.heap.size + 1 + 1, 1, none⟩ = some (.int .u64 0) ∧ w1.cell? ⟨w.heap.size + 1 + 1, 2, none⟩ = some (.string ⟨#[]⟩) ∧ (∀ o, w1.frozen? ⟨w.heap.size, o, none⟩ = false) := by
  have hs := hb.size
  simp only [World.size_alloc] at hs
  refine ⟨by omega, by omega, ?_, ?_, ?_, ?_, ?_, ?_, ?_, ((((Below.refl _ _).alloc (Nat.le_refl _) _).alloc (by simp) _).alloc (by simp; omega) _).trans (hb.mono (by simp; omega)), by omega, ?_, ?_, ?_, ?_⟩
  · rw [hb.cell (p := ⟨w.heap.size, 0, none⟩) (by simp; omega)]; simp [ZC, go_sem]
  · rw [hb.cell (p := ⟨w.heap.size, 1, none⟩) (by simp; omega)]; simp [ZC, go_sem]
  · rw [hb.cell (p := ⟨w.heap.size, 2, none⟩) (by simp; omega)]; simp [ZC, go_sem]
  · rw [hb.cell (p := ⟨w.heap.size + 1, 0, none⟩) (by simp)]; simp [ZC, go_sem]
  · rw [hb.cell (p := ⟨w.heap.size + 1, 1, none⟩) (by simp)]; simp [ZC, go_sem]
  · rw [hb.cell (p := ⟨w.heap.size + 1, 2, none⟩) (by simp)]; simp [ZC, go_sem]
  · intro o
    rw [hb.frozen (p := ⟨w.heap.size + 1, o, none⟩) (by simp)]; simp [ZC, go_sem]
  · rw [hb.cell (p := ⟨w.heap.size + 1 + 1, 0, none⟩) (by simp)]; simp [ZC, go_sem]
  · rw [hb.cell (p := ⟨w.heap.size + 1 + 1, 1, none⟩) (by simp)]; simp [ZC, go_sem]
  · rw [hb.cell (p := ⟨w.heap.size + 1 + 1, 2, none⟩) (by simp)]; simp [ZC, go_sem]
  · intro o
    rw [hb.frozen (p := ⟨w.heap.size, o, none⟩) (by simp; omega)]; simp [ZC, go_sem]
theorem xor_max (b : Int) (h0 : 0 ≤ b) (h1 : b < 18446744073709551616) : bits .xor .u64 IntKind.u64.max b = 18446744073709551615 - b := by
  have e : IntKind.u64.max = 18446744073709551615 := by decide
  rw [e, u64_xor _ b (by omega) (by omega) h0 h1]
  rw [Nat.xor_comm]
  have := nat_xor_mask b.toNat 64 (by omega)
  have e2 : (18446744073709551615 : Int).toNat = 2 ^ 64 - 1 := by decide
  rw [e2, this]
  omega
theorem and_max (w : Nat) (m b : Int) (e : m = ((2 ^ w - 1 : Nat) : Int)) (hw : w ≤ 63) (h0 : 0 ≤ b) (h1 : b ≤ m) : bits .and .u64 (bits .xor .u64 IntKind.u64.max b) m = m - b := by
  have hp : 2 ^ w ≤ 2 ^ 63 := Nat.pow_le_pow_right (by omega) hw
  have hq : 0 < 2 ^ w := Nat.two_pow_pos w
  have h63 : (2 : Nat) ^ 63 = 9223372036854775808 := by decide
  rw [xor_max b h0 (by omega), u64_and _ m (by omega) (by omega) (by omega) (by omega)]
  have e2 : m.toNat = 2 ^ w - 1 := by omega
  rw [e2, Nat.and_two_pow_sub_one_eq_mod]
  have hd : ∃ q, (2 : Nat) ^ 64 = 2 ^ w * q := ⟨2 ^ (64 - w), by rw [← Nat.pow_add]; congr 1; omega⟩
  obtain ⟨q, hq2⟩ := hd
  have h64 : (2 : Nat) ^ 64 = 18446744073709551616 := by decide
  have e3 : (18446744073709551615 - b).toNat = (2 ^ w - 1 - b.toNat) + 2 ^ w * (q - 1) := by
    have : 2 ^ w * q = 2 ^ w * (q - 1) + 2 ^ w := by
      cases q with
      | zero => omega
      | succ q => simp [Nat.mul_add]
    omega
  rw [e3, Nat.add_mul_mod_self_left, Nat.mod_eq_of_lt (by omega)]
  omega
section
variable (op k b : Int) (s : ByteArray) (w : World)
set_option maxHeartbeats 1000000 in
theorem TurnR_x (h0 : 0 ≤ b) (h1 : b < 18446744073709551616) (hk : 0 ≤ k ∧ k < 256) (hs : s.size ≤ maxLen) (c : may3 k b s = false) :
    Calls Try.prog 8 #[.int .i64 op, V k b s] w fun e w' => e = .returned (.tuple #[V 0 0 E0, .int .i64 8]) ∧ Below w.heap.size w w' := by
  go_enter Try.func8, Try.ntmps8
  go_wp2_with (first | (go_at_call 6; refine (MayR_of _ _ _ _ h0 h1 hk hs).mono ?_; rintro e w1 ⟨rfl, hb⟩; obtain ⟨z0, z1, q0, q1, q2, q3, q4, q5, q6, HB, z2, p0, p1, p2, q7⟩ := step_box3 hb; clear hb) | go_in)
  exact bodyPost_ret (v := .tuple #[V 0 0 E0, .int .i64 8]) (by simp [results, Try.results8, go_sem, q3, q4, q5]) rfl ⟨rfl, ((HB.setCell (by simp) _).setCell (by simp) _).setCell (by simp) _⟩
set_option maxHeartbeats 1000000 in
theorem TurnR_y (h0 : 0 ≤ b) (h1 : b < 18446744073709551616) (hk : 0 ≤ k ∧ k < 256) (hs : s.size ≤ maxLen) (c : may3 k b s = true) (o1 : (op == 15) = false) (o2 : (op == 16) = false) :
    Calls Try.prog 8 #[.int .i64 op, V k b s] w fun e w' => e = .returned (.tuple #[V 0 0 E0, .int .i64 8]) ∧ Below w.heap.size w w' := by
  go_enter Try.func8, Try.ntmps8
  go_wp2_with (first | (go_at_call 6; refine (MayR_of _ _ _ _ h0 h1 hk hs).mono ?_; rintro e w1 ⟨rfl, hb⟩; obtain ⟨z0, z1, q0, q1, q2, q3, q4, q5, q6, HB, z2, p0, p1, p2, q7⟩ := step_box3 hb; clear hb) | go_in)
  exact bodyPost_ret (v := .tuple #[V 0 0 E0, .int .i64 8]) (by simp [results, Try.results8, go_sem, q3, q4, q5]) rfl ⟨rfl, ((HB.setCell (by simp) _).setCell (by simp) _).setCell (by simp) _⟩
set_option maxHeartbeats 2000000 in
theorem TurnR_z (h0 : 0 ≤ b) (h1 : b < 18446744073709551616) (hk : 0 ≤ k ∧ k < 256) (hs : s.size ≤ maxLen) (c : may3 k b s = true) (d : ¬ (2 ≤ k ∧ k ≤ 5) ∧ ¬ k = 14 ∧ ¬ k = 18) :
    Calls Try.prog 8 #[.int .i64 15, V k b s] w fun e w' => e = .returned (.tuple #[V 0 0 E0, .int .i64 8]) ∧ Below w.heap.size w w' := by
  obtain ⟨d1, d2, d3⟩ := d
  have e2 : (k == 14) = false := by simpa using d2
  have e3 : (k == 18) = false := by simpa using d3
  have dd : k < 2 ∨ 5 < k := by omega
  clear d1 d2 d3
  rcases dd with d1 | d1
  all_goals
    go_enter Try.func8, Try.ntmps8
    go_wp2_with (first | (go_at_call 6; refine (MayR_of _ _ _ _ h0 h1 hk hs).mono ?_; rintro e w1 ⟨rfl, hb⟩; obtain ⟨z0, z1, q0, q1, q2, q3, q4, q5, q6, HB, z2, p0, p1, p2, q7⟩ := step_box3 hb; clear hb) | go_in)
    exact bodyPost_ret (v := .tuple #[V 0 0 E0, .int .i64 8]) (by simp [results, Try.results8, go_sem, q3, q4, q5]) rfl ⟨rfl, ((HB.setCell (by simp) _).setCell (by simp) _).setCell (by simp) _⟩
set_option maxHeartbeats 2000000 in
theorem TurnR_u (h0 : 0 ≤ b) (h1 : b < 18446744073709551616) (hk : 0 ≤ k ∧ k < 256) (hs : s.size ≤ maxLen) (c : may3 k b s = true) (d : ¬ k = 1 ∧ ¬ (10 ≤ k ∧ k ≤ 13)) :
    Calls Try.prog 8 #[.int .i64 16, V k b s] w fun e w' => e = .returned (.tuple #[V 0 0 E0, .int .i64 8]) ∧ Below w.heap.size w w' := by
  obtain ⟨d1, d2⟩ := d
  have e2 : (k == 1) = false := by simpa using d1
  have dd : k < 10 ∨ 13 < k := by omega
  clear d1 d2
  rcases dd with d1 | d1
  all_goals
    go_enter Try.func8, Try.ntmps8
    go_wp2_with (first | (go_at_call 6; refine (MayR_of _ _ _ _ h0 h1 hk hs).mono ?_; rintro e w1 ⟨rfl, hb⟩; obtain ⟨z0, z1, q0, q1, q2, q3, q4, q5, q6, HB, z2, p0, p1, p2, q7⟩ := step_box3 hb; clear hb) | go_in)
    exact bodyPost_ret (v := .tuple #[V 0 0 E0, .int .i64 8]) (by simp [results, Try.results8, go_sem, q3, q4, q5]) rfl ⟨rfl, ((HB.setCell (by simp) _).setCell (by simp) _).setCell (by simp) _⟩
set_option maxRecDepth 100000 in
set_option maxHeartbeats 1000000 in
theorem signedR_neg (a : Int) (w : World) (g : -9223372036854775808 ≤ a ∧ a < 9223372036854775808) :
    Calls Try.prog 21 #[.int .i64 2, .int .i64 0, .int .i64 a] w fun e w' => e = .returned (if a = -9223372036854775808 then .tuple #[.int .i64 0, .int .i64 1] else .tuple #[.int .i64 (-a), .int .i64 0]) ∧ w' = w := by
  by_cases c : a = -9223372036854775808
  · rw [if_pos c]
    subst c
    have hw : wrap64 9223372036854775808 < 0 := by unfold wrap64; omega
    go_enter Try.func21, Try.ntmps21
    go_wp2
    go_ret2
    exact ⟨rfl, rfl⟩
  · rw [if_neg c]
    by_cases d : a < 0
    · go_enter Try.func21, Try.ntmps21
      go_wp2
      go_ret2
      exact ⟨rfl, rfl⟩
    · go_enter Try.func21, Try.ntmps21
      go_wp2
      go_ret2
      exact ⟨rfl, rfl⟩
set_option maxHeartbeats 1000000 in
theorem TurnR_f1 (hs : s.size ≤ maxLen) (c : may3 18 9221120237041090561 s = true) :
    Calls Try.prog 8 #[.int .i64 15, V 18 9221120237041090561 s] w fun e w' => e = .returned (.tuple #[V 18 9221120237041090561 s, .int .i64 0]) ∧ Below w.heap.size w w' := by
  go_enter Try.func8, Try.ntmps8
  go_wp2_with (first | (go_at_call 6; refine (MayR_of _ _ _ _ (by omega) (by omega) (by omega) hs).mono ?_; rintro e w1 ⟨rfl, hb⟩; obtain ⟨z0, z1, q0, q1, q2, q3, q4, q5, q6, HB, z2, p0, p1, p2, q7⟩ := step_box3 hb; clear hb) | go_in)
  exact bodyPost_ret (v := .tuple #[V 18 9221120237041090561 s, .int .i64 0]) (by simp [results, Try.results8, go_sem, q3, q4, q5]) rfl ⟨rfl, ((HB.setCell (by simp) _).setCell (by simp) _).setCell (by simp) _⟩
set_option maxHeartbeats 1000000 in
theorem TurnR_f2 (h0 : 0 ≤ b) (h1 : b < 18446744073709551616) (hs : s.size ≤ maxLen) (c : may3 18 b s = true) (d : (b == 9221120237041090561) = false) :
    Calls Try.prog 8 #[.int .i64 15, V 18 b s] w fun e w' => e = .returned (.tuple #[V 18 (bits .xor .u64 b 9223372036854775808) s, .int .i64 0]) ∧ Below w.heap.size w w' := by
  go_enter Try.func8, Try.ntmps8
  go_wp2_with (first | (go_at_call 6; refine (MayR_of _ _ _ _ h0 h1 (by omega) hs).mono ?_; rintro e w1 ⟨rfl, hb⟩; obtain ⟨z0, z1, q0, q1, q2, q3, q4, q5, q6, HB, z2, p0, p1, p2, q7⟩ := step_box3 hb; clear hb) | go_in)
  exact bodyPost_ret (v := .tuple #[V 18 (bits .xor .u64 b 9223372036854775808) s, .int .i64 0]) (by simp [results, Try.results8, go_sem, q3, q4, q5]) rfl ⟨rfl, (((HB.setCell (by simp) _).setCell (by simp) _).setCell (by simp) _).setCell (by simp) _⟩
set_option maxHeartbeats 1000000 in
theorem TurnR_n1 (h0 : 0 ≤ b) (h1 : b ≤ 1) (hs : s.size ≤ maxLen) (c : may3 1 b s = true) :
    Calls Try.prog 8 #[.int .i64 16, V 1 b s] w fun e w' => e = .returned (.tuple #[V 1 (1 - b) s, .int .i64 0]) ∧ Below w.heap.size w w' := by
  go_enter Try.func8, Try.ntmps8
  go_wp2_with (first | (go_at_call 6; refine (MayR_of _ _ _ _ h0 (by omega) (by omega) hs).mono ?_; rintro e w1 ⟨rfl, hb⟩; obtain ⟨z0, z1, q0, q1, q2, q3, q4, q5, q6, HB, z2, p0, p1, p2, q7⟩ := step_box3 hb; clear hb) | go_in)
  exact bodyPost_ret (v := .tuple #[V 1 (1 - b) s, .int .i64 0]) (by simp [results, Try.results8, go_sem, q3, q4, q5]) rfl ⟨rfl, (((HB.setCell (by simp) _).setCell (by simp) _).setCell (by simp) _).setCell (by simp) _⟩
set_option maxHeartbeats 1000000 in
theorem TurnR_n10 (h0 : 0 ≤ b) (h1 : b ≤ 255) (hs : s.size ≤ maxLen) (c : may3 10 b s = true) :
    Calls Try.prog 8 #[.int .i64 16, V 10 b s] w fun e w' => e = .returned (.tuple #[V 10 (255 - b) s, .int .i64 0]) ∧ Below w.heap.size w w' := by
  have X : Hid (bits .and .u64 (bits .xor .u64 IntKind.u64.max b) 255 = 255 - b) := and_max 8 255 b (by decide) (by omega) h0 h1
  go_enter Try.func8, Try.ntmps8
  go_wp2_with (first | (go_at_call 6; refine (MayR_of _ _ _ _ h0 (by omega) (by omega) hs).mono ?_; rintro e w1 ⟨rfl, hb⟩; obtain ⟨z0, z1, q0, q1, q2, q3, q4, q5, q6, HB, z2, p0, p1, p2, q7⟩ := step_box3 hb; clear hb) | go_in)
  go_region
  all_goals go_wp2
  all_goals exact bodyPost_ret (v := .tuple #[V 10 (255 - b) s, .int .i64 0]) (by simp [results, Try.results8, go_sem, X.out, q3, q4, q5]) rfl ⟨rfl, by first | exact ((((((HB.drew).setCell (by simp) _).setCell (by simp) _).setCell (by simp) _).setCell (by simp) _).setCell (by simp) _) | exact ((((((HB).setCell (by simp) _).setCell (by simp) _).setCell (by simp) _).setCell (by simp) _).setCell (by simp) _).drew⟩
set_option maxHeartbeats 1000000 in
theorem TurnR_n11 (h0 : 0 ≤ b) (h1 : b ≤ 65535) (hs : s.size ≤ maxLen) (c : may3 11 b s = true) :
    Calls Try.prog 8 #[.int .i64 16, V 11 b s] w fun e w' => e = .returned (.tuple #[V 11 (65535 - b) s, .int .i64 0]) ∧ Below w.heap.size w w' := by
  have X : Hid (bits .and .u64 (bits .xor .u64 IntKind.u64.max b) 65535 = 65535 - b) := and_max 16 65535 b (by decide) (by omega) h0 h1
  go_enter Try.func8, Try.ntmps8
  go_wp2_with (first | (go_at_call 6; refine (MayR_of _ _ _ _ h0 (by omega) (by omega) hs).mono ?_; rintro e w1 ⟨rfl, hb⟩; obtain ⟨z0, z1, q0, q1, q2, q3, q4, q5, q6, HB, z2, p0, p1, p2, q7⟩ := step_box3 hb; clear hb) | go_in)
  go_region
  all_goals go_wp2
  all_goals exact bodyPost_ret (v := .tuple #[V 11 (65535 - b) s, .int .i64 0]) (by simp [results, Try.results8, go_sem, X.out, q3, q4, q5]) rfl ⟨rfl, by first | exact ((((((HB.drew).setCell (by simp) _).setCell (by simp) _).setCell (by simp) _).setCell (by simp) _).setCell (by simp) _) | exact ((((((HB).setCell (by simp) _).setCell (by simp) _).setCell (by simp) _).setCell (by simp) _).setCell (by simp) _).drew⟩
set_option maxHeartbeats 1000000 in
theorem TurnR_n12 (h0 : 0 ≤ b) (h1 : b ≤ 4294967295) (hs : s.size ≤ maxLen) (c : may3 12 b s = true) :
    Calls Try.prog 8 #[.int .i64 16, V 12 b s] w fun e w' => e = .returned (.tuple #[V 12 (4294967295 - b) s, .int .i64 0]) ∧ Below w.heap.size w w' := by
  have X : Hid (bits .and .u64 (bits .xor .u64 IntKind.u64.max b) 4294967295 = 4294967295 - b) := and_max 32 4294967295 b (by decide) (by omega) h0 h1
  go_enter Try.func8, Try.ntmps8
  go_wp2_with (first | (go_at_call 6; refine (MayR_of _ _ _ _ h0 (by omega) (by omega) hs).mono ?_; rintro e w1 ⟨rfl, hb⟩; obtain ⟨z0, z1, q0, q1, q2, q3, q4, q5, q6, HB, z2, p0, p1, p2, q7⟩ := step_box3 hb; clear hb) | go_in)
  go_region
  all_goals go_wp2
  all_goals exact bodyPost_ret (v := .tuple #[V 12 (4294967295 - b) s, .int .i64 0]) (by simp [results, Try.results8, go_sem, X.out, q3, q4, q5]) rfl ⟨rfl, by first | exact ((((((HB.drew).setCell (by simp) _).setCell (by simp) _).setCell (by simp) _).setCell (by simp) _).setCell (by simp) _) | exact ((((((HB).setCell (by simp) _).setCell (by simp) _).setCell (by simp) _).setCell (by simp) _).setCell (by simp) _).drew⟩
set_option maxHeartbeats 1000000 in
theorem TurnR_n13 (h0 : 0 ≤ b) (h1 : b ≤ 18446744073709551615) (hs : s.size ≤ maxLen) (c : may3 13 b s = true) :
    Calls Try.prog 8 #[.int .i64 16, V 13 b s] w fun e w' => e = .returned (.tuple #[V 13 (18446744073709551615 - b) s, .int .i64 0]) ∧ Below w.heap.size w w' := by
  have X : Hid (bits .xor .u64 IntKind.u64.max b = 18446744073709551615 - b) := xor_max b h0 (by omega)
  go_enter Try.func8, Try.ntmps8
  go_wp2_with (first | (go_at_call 6; refine (MayR_of _ _ _ _ h0 (by omega) (by omega) hs).mono ?_; rintro e w1 ⟨rfl, hb⟩; obtain ⟨z0, z1, q0, q1, q2, q3, q4, q5, q6, HB, z2, p0, p1, p2, q7⟩ := step_box3 hb; clear hb) | go_in)
  exact bodyPost_ret (v := .tuple #[V 13 (18446744073709551615 - b) s, .int .i64 0]) (by simp [results, Try.results8, go_sem, X.out, q3, q4, q5]) rfl ⟨rfl, (((HB.setCell (by simp) _).setCell (by simp) _).setCell (by simp) _).setCell (by simp) _⟩
theorem signedR_over (a : Int) (w : World) (g : -9223372036854775808 ≤ a ∧ a < 9223372036854775808) (h : a = -9223372036854775808) :
    Calls Try.prog 21 #[.int .i64 2, .int .i64 0, .int .i64 a] w fun e w' => e = .returned (.tuple #[.int .i64 0, .int .i64 1]) ∧ w' = w := by
  have := signedR_neg a w g
  rwa [if_pos h] at this
theorem signedR_fine (a : Int) (w : World) (g : -9223372036854775808 ≤ a ∧ a < 9223372036854775808) (h : ¬ a = -9223372036854775808) :
    Calls Try.prog 21 #[.int .i64 2, .int .i64 0, .int .i64 a] w fun e w' => e = .returned (.tuple #[.int .i64 (-a), .int .i64 0]) ∧ w' = w := by
  have := signedR_neg a w g
  rwa [if_neg h] at this
theorem made_yes (k b fault : Int) (w : World) (h0 : 0 ≤ b) (h1 : b < 18446744073709551616) (hk : 0 ≤ k ∧ k < 256) (h : mayW k b = true) :
    Calls Try.prog 22 #[.int .u8 k, .int .u64 b, .int .i64 fault] w fun e w' => e = .returned (.tuple #[V k b E0, .int .i64 0]) ∧ Below w.heap.size w w' := by
  have := made_of k b fault w h0 h1 hk
  rwa [← RV_t h] at this
theorem made_no (k b fault : Int) (w : World) (h0 : 0 ≤ b) (h1 : b < 18446744073709551616) (hk : 0 ≤ k ∧ k < 256) (h : mayW k b = false) :
    Calls Try.prog 22 #[.int .u8 k, .int .u64 b, .int .i64 fault] w fun e w' => e = .returned (.tuple #[V 0 0 E0, .int .i64 fault]) ∧ Below w.heap.size w w' := by
  have := made_of k b fault w h0 h1 hk
  rwa [← RV_f h] at this
set_option maxHeartbeats 1000000 in
theorem TurnR_over_s (k b : Int) (s : ByteArray) (w : World) (h0 : 0 ≤ b) (h1 : b < 18446744073709551616) (hk : 0 ≤ (k : Int) ∧ (k : Int) < 256) (hs : s.size ≤ maxLen) (c : may3 k b s = true) (d1 : 2 ≤ k) (d2 : k ≤ 5) (f : wrap64 b = -9223372036854775808) :
    Calls Try.prog 8 #[.int .i64 15, V k b s] w fun e w' => e = .returned (.tuple #[V 0 0 E0, .int .i64 1]) ∧ Below w.heap.size w w' := by
  have F : Hid (wrap64 b = -9223372036854775808) := f
  clear f
  go_enter Try.func8, Try.ntmps8
  go_wp2_with (first | (go_at_call 6; refine (MayR_of _ _ _ _ h0 h1 hk hs).mono ?_; rintro e w1 ⟨rfl, hb⟩; obtain ⟨z0, z1, q0, q1, q2, q3, q4, q5, q6, HB, z2, p0, p1, p2, q7⟩ := step_box3 hb; clear hb) | (go_at_call 21; refine (signedR_over _ _ (wrap64_bd b) F.out).mono ?_; rintro e w2 ⟨rfl, rfl⟩) | go_in)
  exact bodyPost_ret (v := .tuple #[V 0 0 E0, .int .i64 1]) (by simp [results, Try.results8, go_sem, q3, q4, q5]) rfl ⟨rfl, ((HB.setCell (by simp) _).setCell (by simp) _).setCell (by simp) _⟩
set_option maxHeartbeats 1000000 in
theorem TurnR_yes_s (k b : Int) (s : ByteArray) (w : World) (h0 : 0 ≤ b) (h1 : b < 18446744073709551616) (hk : 0 ≤ (k : Int) ∧ (k : Int) < 256) (hs : s.size ≤ maxLen) (c : may3 k b s = true) (d1 : 2 ≤ k) (d2 : k ≤ 5) (f : ¬ wrap64 b = -9223372036854775808) (m : mayW k (IntKind.u64.wrap (-wrap64 b)) = true) :
    Calls Try.prog 8 #[.int .i64 15, V k b s] w fun e w' => e = .returned (.tuple #[V k (IntKind.u64.wrap (-wrap64 b)) E0, .int .i64 0]) ∧ Below w.heap.size w w' := by
  have F : Hid (¬ wrap64 b = -9223372036854775808) := f
  have M : Hid (mayW k (IntKind.u64.wrap (-wrap64 b)) = true) := m
  have b0 : 0 ≤ IntKind.u64.wrap (-wrap64 b) := by rw [IntKind.wrap_u64]; omega
  have b1 : IntKind.u64.wrap (-wrap64 b) < 18446744073709551616 := by rw [IntKind.wrap_u64]; omega
  clear f m
  go_enter Try.func8, Try.ntmps8
  go_wp2_with (first | (go_at_call 6; refine (MayR_of _ _ _ _ h0 h1 hk hs).mono ?_; rintro e w1 ⟨rfl, hb⟩; obtain ⟨z0, z1, q0, q1, q2, q3, q4, q5, q6, HB, z2, p0, p1, p2, q7⟩ := step_box3 hb; clear hb) | (go_at_call 21; refine (signedR_fine _ _ (wrap64_bd b) F.out).mono ?_; rintro e w2 ⟨rfl, rfl⟩) | (go_at_call 22; refine (made_yes _ _ _ _ b0 b1 hk M.out).mono ?_; rintro e w3 ⟨rfl, hb3⟩; obtain ⟨y0, y1, n0, n1, n2⟩ := step2 hb3 z0 z1) | go_in)
  exact bodyPost_ret (v := .tuple #[V k (IntKind.u64.wrap (-wrap64 b)) E0, .int .i64 0]) (by simp [results, Try.results8, go_sem, n1, q3, q4, q5]) rfl ⟨rfl, (((HB.trans (hb3.mono (Nat.le_of_lt z0))).setCell (by simp) _).setCell (by simp) _).setCell (by simp) _⟩
set_option maxHeartbeats 1000000 in
theorem TurnR_no_s (k b : Int) (s : ByteArray) (w : World) (h0 : 0 ≤ b) (h1 : b < 18446744073709551616) (hk : 0 ≤ (k : Int) ∧ (k : Int) < 256) (hs : s.size ≤ maxLen) (c : may3 k b s = true) (d1 : 2 ≤ k) (d2 : k ≤ 5) (f : ¬ wrap64 b = -9223372036854775808) (m : mayW k (IntKind.u64.wrap (-wrap64 b)) = false) :
    Calls Try.prog 8 #[.int .i64 15, V k b s] w fun e w' => e = .returned (.tuple #[V 0 0 E0, .int .i64 1]) ∧ Below w.heap.size w w' := by
  have F : Hid (¬ wrap64 b = -9223372036854775808) := f
  have M : Hid (mayW k (IntKind.u64.wrap (-wrap64 b)) = false) := m
  have b0 : 0 ≤ IntKind.u64.wrap (-wrap64 b) := by rw [IntKind.wrap_u64]; omega
  have b1 : IntKind.u64.wrap (-wrap64 b) < 18446744073709551616 := by rw [IntKind.wrap_u64]; omega
  clear f m
  go_enter Try.func8, Try.ntmps8
  go_wp2_with (first | (go_at_call 6; refine (MayR_of _ _ _ _ h0 h1 hk hs).mono ?_; rintro e w1 ⟨rfl, hb⟩; obtain ⟨z0, z1, q0, q1, q2, q3, q4, q5, q6, HB, z2, p0, p1, p2, q7⟩ := step_box3 hb; clear hb) | (go_at_call 21; refine (signedR_fine _ _ (wrap64_bd b) F.out).mono ?_; rintro e w2 ⟨rfl, rfl⟩) | (go_at_call 22; refine (made_no _ _ _ _ b0 b1 hk M.out).mono ?_; rintro e w3 ⟨rfl, hb3⟩; obtain ⟨y0, y1, n0, n1, n2⟩ := step2 hb3 z0 z1) | go_in)
  exact bodyPost_ret (v := .tuple #[V 0 0 E0, .int .i64 1]) (by simp [results, Try.results8, go_sem, n1, q3, q4, q5]) rfl ⟨rfl, (((HB.trans (hb3.mono (Nat.le_of_lt z0))).setCell (by simp) _).setCell (by simp) _).setCell (by simp) _⟩
set_option maxHeartbeats 1000000 in
theorem TurnR_over_t (b : Int) (s : ByteArray) (w : World) (h0 : 0 ≤ b) (h1 : b < 18446744073709551616) (hk : 0 ≤ (14 : Int) ∧ (14 : Int) < 256) (hs : s.size ≤ maxLen) (c : may3 14 b s = true) (f : wrap64 b = -9223372036854775808) :
    Calls Try.prog 8 #[.int .i64 15, V 14 b s] w fun e w' => e = .returned (.tuple #[V 0 0 E0, .int .i64 1]) ∧ Below w.heap.size w w' := by
  have F : Hid (wrap64 b = -9223372036854775808) := f
  clear f
  go_enter Try.func8, Try.ntmps8
  go_wp2_with (first | (go_at_call 6; refine (MayR_of _ _ _ _ h0 h1 hk hs).mono ?_; rintro e w1 ⟨rfl, hb⟩; obtain ⟨z0, z1, q0, q1, q2, q3, q4, q5, q6, HB, z2, p0, p1, p2, q7⟩ := step_box3 hb; clear hb) | (go_at_call 21; refine (signedR_over _ _ (wrap64_bd b) F.out).mono ?_; rintro e w2 ⟨rfl, rfl⟩) | go_in)
  exact bodyPost_ret (v := .tuple #[V 0 0 E0, .int .i64 1]) (by simp [results, Try.results8, go_sem, q3, q4, q5]) rfl ⟨rfl, ((HB.setCell (by simp) _).setCell (by simp) _).setCell (by simp) _⟩
set_option maxHeartbeats 1000000 in
theorem TurnR_yes_t (b : Int) (s : ByteArray) (w : World) (h0 : 0 ≤ b) (h1 : b < 18446744073709551616) (hk : 0 ≤ (14 : Int) ∧ (14 : Int) < 256) (hs : s.size ≤ maxLen) (c : may3 14 b s = true) (f : ¬ wrap64 b = -9223372036854775808) (m : mayW 14 (IntKind.u64.wrap (-wrap64 b)) = true) :
    Calls Try.prog 8 #[.int .i64 15, V 14 b s] w fun e w' => e = .returned (.tuple #[V 14 (IntKind.u64.wrap (-wrap64 b)) E0, .int .i64 0]) ∧ Below w.heap.size w w' := by
  have F : Hid (¬ wrap64 b = -9223372036854775808) := f
  have M : Hid (mayW 14 (IntKind.u64.wrap (-wrap64 b)) = true) := m
  have b0 : 0 ≤ IntKind.u64.wrap (-wrap64 b) := by rw [IntKind.wrap_u64]; omega
  have b1 : IntKind.u64.wrap (-wrap64 b) < 18446744073709551616 := by rw [IntKind.wrap_u64]; omega
  clear f m
  go_enter Try.func8, Try.ntmps8
  go_wp2_with (first | (go_at_call 6; refine (MayR_of _ _ _ _ h0 h1 hk hs).mono ?_; rintro e w1 ⟨rfl, hb⟩; obtain ⟨z0, z1, q0, q1, q2, q3, q4, q5, q6, HB, z2, p0, p1, p2, q7⟩ := step_box3 hb; clear hb) | (go_at_call 21; refine (signedR_fine _ _ (wrap64_bd b) F.out).mono ?_; rintro e w2 ⟨rfl, rfl⟩) | (go_at_call 22; refine (made_yes _ _ _ _ b0 b1 hk M.out).mono ?_; rintro e w3 ⟨rfl, hb3⟩; obtain ⟨y0, y1, n0, n1, n2⟩ := step2 hb3 z0 z1) | go_in)
  exact bodyPost_ret (v := .tuple #[V 14 (IntKind.u64.wrap (-wrap64 b)) E0, .int .i64 0]) (by simp [results, Try.results8, go_sem, n1, q3, q4, q5]) rfl ⟨rfl, (((HB.trans (hb3.mono (Nat.le_of_lt z0))).setCell (by simp) _).setCell (by simp) _).setCell (by simp) _⟩
set_option maxHeartbeats 1000000 in
theorem TurnR_no_t (b : Int) (s : ByteArray) (w : World) (h0 : 0 ≤ b) (h1 : b < 18446744073709551616) (hk : 0 ≤ (14 : Int) ∧ (14 : Int) < 256) (hs : s.size ≤ maxLen) (c : may3 14 b s = true) (f : ¬ wrap64 b = -9223372036854775808) (m : mayW 14 (IntKind.u64.wrap (-wrap64 b)) = false) :
    Calls Try.prog 8 #[.int .i64 15, V 14 b s] w fun e w' => e = .returned (.tuple #[V 0 0 E0, .int .i64 1]) ∧ Below w.heap.size w w' := by
  have F : Hid (¬ wrap64 b = -9223372036854775808) := f
  have M : Hid (mayW 14 (IntKind.u64.wrap (-wrap64 b)) = false) := m
  have b0 : 0 ≤ IntKind.u64.wrap (-wrap64 b) := by rw [IntKind.wrap_u64]; omega
  have b1 : IntKind.u64.wrap (-wrap64 b) < 18446744073709551616 := by rw [IntKind.wrap_u64]; omega
  clear f m
  go_enter Try.func8, Try.ntmps8
  go_wp2_with (first | (go_at_call 6; refine (MayR_of _ _ _ _ h0 h1 hk hs).mono ?_; rintro e w1 ⟨rfl, hb⟩; obtain ⟨z0, z1, q0, q1, q2, q3, q4, q5, q6, HB, z2, p0, p1, p2, q7⟩ := step_box3 hb; clear hb) | (go_at_call 21; refine (signedR_fine _ _ (wrap64_bd b) F.out).mono ?_; rintro e w2 ⟨rfl, rfl⟩) | (go_at_call 22; refine (made_no _ _ _ _ b0 b1 hk M.out).mono ?_; rintro e w3 ⟨rfl, hb3⟩; obtain ⟨y0, y1, n0, n1, n2⟩ := step2 hb3 z0 z1) | go_in)
  exact bodyPost_ret (v := .tuple #[V 0 0 E0, .int .i64 1]) (by simp [results, Try.results8, go_sem, n1, q3, q4, q5]) rfl ⟨rfl, (((HB.trans (hb3.mono (Nat.le_of_lt z0))).setCell (by simp) _).setCell (by simp) _).setCell (by simp) _⟩
end
end Go.Proofs.Ytdnpeghdfhjmaab
