/- What the value package's product comes to; no statement of the seat is proved here. -/
import Derived.Test.YtkanhbokdjppoaaGreatDoorRecV
namespace Go.Proofs.YtkanhbokdjppoaaGreatDoor
set_option linter.unusedVariables false
open Go.RowKit
theorem mk32 (a : Nat) (ha : a < 18446744073709551616) : bits .and .u64 (a : Int) 4294967295 = ((a % 4294967296 : Nat) : Int) := by
  have h := bits_and_u64_nat a 4294967295 ha (by omega)
  rwa [show a &&& 4294967295 = a % 4294967296 from Nat.and_two_pow_sub_one_eq_mod a 32] at h
theorem dv32 (a : Nat) : (a : Int) / 4294967296 = ((a / 4294967296 : Nat) : Int) := by omega
theorem wr64 (a : Nat) (ha : a < 18446744073709551616) : IntKind.u64.wrap (a : Int) = (a : Int) := by rw [IntKind.wrap_u64]; omega
theorem wm64 (a : Nat) : IntKind.u64.wrap (a : Int) = ((a % 18446744073709551616 : Nat) : Int) := by rw [IntKind.wrap_u64]; omega
set_option maxHeartbeats 1000000 in
theorem Mul64_of (x y : Nat) (hx : x < 18446744073709551616) (hy : y < 18446744073709551616) (w : World) :
    Calls Tryz.prog 205 #[.int .u64 x, .int .u64 y] w fun e w' => e = .returned (.tuple #[.int .u64 ((x * y / 18446744073709551616 : Nat) : Int), .int .u64 ((x * y % 18446744073709551616 : Nat) : Int)]) ∧ w' = w := by
  obtain ⟨bd, bt, bw, hhi⟩ := Lib.mul64_hi x y hx hy
  have ba := Lib.half_mul_le (a := x / 4294967296) (b := y / 4294967296) (by omega) (by omega)
  have bb := Lib.half_mul_le (a := x / 4294967296) (b := y % 4294967296) (by omega) (by omega)
  have bc := Lib.half_mul_le (a := x % 4294967296) (b := y / 4294967296) (by omega) (by omega)
  have ba' : x / 4294967296 * (y / 4294967296) < 18446744073709551616 := by omega
  have bb' : x / 4294967296 * (y % 4294967296) < 18446744073709551616 := by omega
  have bc' : x % 4294967296 * (y / 4294967296) < 18446744073709551616 := by omega
  have bh1 : x / 4294967296 * (y / 4294967296) + (x / 4294967296 * (y % 4294967296) + x % 4294967296 * (y % 4294967296) / 4294967296) / 4294967296 < 18446744073709551616 := by omega
  have bh : x / 4294967296 * (y / 4294967296) + (x / 4294967296 * (y % 4294967296) + x % 4294967296 * (y % 4294967296) / 4294967296) / 4294967296 + ((x / 4294967296 * (y % 4294967296) + x % 4294967296 * (y % 4294967296) / 4294967296) % 4294967296 + x % 4294967296 * (y / 4294967296)) / 4294967296 < 18446744073709551616 := by omega
  go_enter Tryz.func205, Tryz.ntmps205
  go_wp2
  simp only [mk32 x hx, mk32 y hy, dv32, ← Int.natCast_mul, ← Int.natCast_add, wr64 _ bd, wr64 _ bb', wr64 _ bt, mk32 _ bt, wr64 _ bc', wr64 _ bw, wr64 _ ba', wr64 _ bh1, wr64 _ bh, wm64 (x * y)]
  rw [hhi]
  go_ret2
  exact ⟨rfl, rfl⟩
set_option maxHeartbeats 1000000 in
theorem product_raw (p q : Bool) (x y : Nat) (w : World) (hx : x < 18446744073709551616) (hy : y < 18446744073709551616) :
    Calls Tryz.prog 182 #[.agg #[.bool p, .int .u64 x], .agg #[.bool q, .int .u64 y]] w fun e w' =>
      e = .returned (.tuple #[NB (sgn (p != q) ((x * y % 18446744073709551616 : Nat) : Int)), .bool (((x * y / 18446744073709551616 : Nat) : Int) == 0)]) ∧ Below w.heap.size w w' := by
  have m0 : (0 : Int) ≤ ((x * y % 18446744073709551616 : Nat) : Int) := by omega
  have M : Hid _ := Mul64_of x y hx hy
  generalize x * y % 18446744073709551616 = lo at *
  generalize x * y / 18446744073709551616 = hi at *
  cases p <;> cases q
  all_goals
    go_enter Tryz.func182, Tryz.ntmps182
    go_wp2_with (first | (go_at_call 205; refine (M.out _).mono ?_; rintro e w1 ⟨rfl, rfl⟩) | (go_at_call 183; refine (signed_of _ _ _ m0).mono ?_; rintro e w1 ⟨rfl, hb⟩; obtain ⟨hc, hf⟩ := bcell hb))
    refine bodyPost_ret (v := .tuple #[NB (sgn _ (lo : Int)), .bool ((hi : Int) == 0)]) (by simp [results, Tryz.results182, go_sem, hc]) rfl ⟨rfl, below_n3 hb⟩
/-- A product of two numbers: it, and whether there is room for it; without room the number plays no part. -/
theorem product_of (x y : Int) (w : World) (hx : -18446744073709551616 < x ∧ x < 18446744073709551616) (hy : -18446744073709551616 < y ∧ y < 18446744073709551616) :
    Calls Tryz.prog 182 #[NB x, NB y] w fun e w' => (∃ v, (room (x * y) = true → v = x * y) ∧ e = .returned (.tuple #[NB v, .bool (room (x * y))])) ∧ Below w.heap.size w w' := by
  have := product_raw (decide (x < 0)) (decide (y < 0)) x.natAbs y.natAbs w (by omega) (by omega)
  refine this.mono fun e w' ⟨he, hb⟩ => ⟨⟨sgn (decide (x < 0) != decide (y < 0)) ((x.natAbs * y.natAbs % 18446744073709551616 : Nat) : Int), ?_, ?_⟩, hb⟩
  · intro h
    have ha : (x * y).natAbs = x.natAbs * y.natAbs := Int.natAbs_mul x y
    have hs : sgn (decide (x < 0) != decide (y < 0)) ((x.natAbs * y.natAbs : Nat) : Int) = x * y := by
      rw [Int.natCast_mul]
      by_cases d : x < 0 <;> by_cases d2 : y < 0
      · have e1 : (x.natAbs : Int) = -x := by omega
        have e2 : (y.natAbs : Int) = -y := by omega
        simp only [sgn, d, d2, decide_true, bne_self_eq_false, Bool.false_eq_true, if_false]
        rw [e1, e2, Int.neg_mul_neg]
      · have e1 : (x.natAbs : Int) = -x := by omega
        have e2 : (y.natAbs : Int) = y := by omega
        simp [sgn, d, d2]
        rw [e1, e2, Int.neg_mul, Int.neg_neg]
      · have e1 : (x.natAbs : Int) = x := by omega
        have e2 : (y.natAbs : Int) = -y := by omega
        simp [sgn, d, d2]
        rw [e1, e2, Int.mul_neg, Int.neg_neg]
      · have e1 : (x.natAbs : Int) = x := by omega
        have e2 : (y.natAbs : Int) = y := by omega
        simp [sgn, d, d2]
        rw [e1, e2]
    rw [← hs]
    simp [room] at h
    rw [← ha] at *
    rw [Nat.mod_eq_of_lt (by generalize x * y = z at *; omega)]
  · rw [he]
    have ha : (x * y).natAbs = x.natAbs * y.natAbs := Int.natAbs_mul x y
    have : (((x.natAbs * y.natAbs / 18446744073709551616 : Nat) : Int) == 0) = room (x * y) := by
      rw [← ha, Bool.eq_iff_iff]
      generalize x * y = z at *
      simp [room]; omega
    rw [this]
end Go.Proofs.YtkanhbokdjppoaaGreatDoor
