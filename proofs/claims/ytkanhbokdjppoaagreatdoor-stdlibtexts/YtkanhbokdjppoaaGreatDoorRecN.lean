/- What the value package's reckonNumbers answers; no statement of the seat is proved here. -/
import Derived.Test.YtkanhbokdjppoaaGreatDoorRecP
import Derived.Deep.RegionHeld3
namespace Go.Proofs.YtkanhbokdjppoaaGreatDoor
set_option linter.unusedVariables false
open Go.RowKit
abbrev N0 : Value := .agg #[.bool false, .int .u64 0]
section
variable (x y : Int) (w : World)
theorem sum_yes (hx : -18446744073709551616 < x ∧ x < 18446744073709551616) (hy : -18446744073709551616 < y ∧ y < 18446744073709551616) (h : room (x + y) = true) :
    Calls Tryz.prog 181 #[NB x, NB y] w fun e w' => e = .returned (.tuple #[NB (x + y), .bool true]) ∧ Below w.heap.size w w' := by
  refine (sum_of x y w hx hy).mono ?_
  rintro e w' ⟨⟨v, hv, rfl⟩, hb⟩
  rw [hv h, h]; exact ⟨rfl, hb⟩
theorem sum_no (hx : -18446744073709551616 < x ∧ x < 18446744073709551616) (hy : -18446744073709551616 < y ∧ y < 18446744073709551616) (h : room (x + y) = false) :
    Calls Tryz.prog 181 #[NB x, NB y] w fun e w' => (∃ v, e = .returned (.tuple #[NB v, .bool false])) ∧ Below w.heap.size w w' := by
  refine (sum_of x y w hx hy).mono ?_
  rintro e w' ⟨⟨v, hv, rfl⟩, hb⟩
  rw [h]; exact ⟨⟨v, rfl⟩, hb⟩
theorem product_yes (hx : -18446744073709551616 < x ∧ x < 18446744073709551616) (hy : -18446744073709551616 < y ∧ y < 18446744073709551616) (h : room (x * y) = true) :
    Calls Tryz.prog 182 #[NB x, NB y] w fun e w' => e = .returned (.tuple #[NB (x * y), .bool true]) ∧ Below w.heap.size w w' := by
  refine (product_of x y w hx hy).mono ?_
  rintro e w' ⟨⟨v, hv, rfl⟩, hb⟩
  rw [hv h, h]; exact ⟨rfl, hb⟩
theorem product_no (hx : -18446744073709551616 < x ∧ x < 18446744073709551616) (hy : -18446744073709551616 < y ∧ y < 18446744073709551616) (h : room (x * y) = false) :
    Calls Tryz.prog 182 #[NB x, NB y] w fun e w' => (∃ v, e = .returned (.tuple #[NB v, .bool false])) ∧ Below w.heap.size w w' := by
  refine (product_of x y w hx hy).mono ?_
  rintro e w' ⟨⟨v, hv, rfl⟩, hb⟩
  rw [h]; exact ⟨⟨v, rfl⟩, hb⟩
end
theorem below4 {w w1 : World} {x y z u : Obj} (hb : Below ((((w.alloc x).alloc y).alloc z).alloc u).heap.size ((((w.alloc x).alloc y).alloc z).alloc u) w1) :
    Below w.heap.size w w1 ∧ w.heap.size + 1 + 1 + 1 < w1.heap.size := by
  refine ⟨((((((Below.refl _ _).alloc (Nat.le_refl _) _).alloc (by simp) _).alloc (by simp; omega) _).alloc (by simp; omega) _).trans (hb.mono (by simp; omega))), ?_⟩
  have := hb.size
  simp at this
  omega
theorem steps4b {W w1 : World} {h : Nat} (hb : Below W.heap.size W w1) (z : h + 1 + 1 + 1 < W.heap.size) :
    h + 1 + 1 + 1 < w1.heap.size ∧ (∀ o, w1.cell? ⟨h, o, none⟩ = W.cell? ⟨h, o, none⟩) ∧ (∀ o, w1.cell? ⟨h + 1, o, none⟩ = W.cell? ⟨h + 1, o, none⟩) ∧ (∀ o, w1.cell? ⟨h + 1 + 1, o, none⟩ = W.cell? ⟨h + 1 + 1, o, none⟩) ∧ (∀ o, w1.cell? ⟨h + 1 + 1 + 1, o, none⟩ = W.cell? ⟨h + 1 + 1 + 1, o, none⟩) ∧
    (∀ o, w1.frozen? ⟨h + 1 + 1, o, none⟩ = W.frozen? ⟨h + 1 + 1, o, none⟩) ∧ (∀ o, w1.frozen? ⟨h + 1 + 1 + 1, o, none⟩ = W.frozen? ⟨h + 1 + 1 + 1, o, none⟩) :=
  ⟨Nat.lt_of_lt_of_le z hb.size, fun o => hb.cell (p := ⟨h, o, none⟩) (by show h < _; omega), fun o => hb.cell (p := ⟨h + 1, o, none⟩) (by show h + 1 < _; omega), fun o => hb.cell (p := ⟨h + 1 + 1, o, none⟩) (by show h + 1 + 1 < _; omega), fun o => hb.cell (p := ⟨h + 1 + 1 + 1, o, none⟩) z, fun o => hb.frozen (p := ⟨h + 1 + 1, o, none⟩) (by show h + 1 + 1 < _; omega), fun o => hb.frozen (p := ⟨h + 1 + 1 + 1, o, none⟩) z⟩
theorem steps4 {w w1 : World} {x y z u : Obj} (hb : Below ((((w.alloc x).alloc y).alloc z).alloc u).drew.heap.size ((((w.alloc x).alloc y).alloc z).alloc u).drew w1) :
    Below w.heap.size w w1 ∧ w.heap.size + 1 + 1 + 1 < ((((w.alloc x).alloc y).alloc z).alloc u).drew.heap.size := by
  refine ⟨(((((((Below.refl _ _).alloc (Nat.le_refl _) _).alloc (by simp) _).alloc (by simp; omega) _).alloc (by simp; omega) _).drew.trans (hb.mono (by simp; omega)))), ?_⟩
  simp
section
variable (x y : Int) (w : World)
set_option maxHeartbeats 1000000 in
theorem rn_add_yes (hx : -18446744073709551616 < x ∧ x < 18446744073709551616) (hy : -18446744073709551616 < y ∧ y < 18446744073709551616) (h : room (x + y) = true) :
    Calls Tryz.prog 146 #[.int .i64 1, NB x, NB y] w fun e w' => e = .returned (.tuple #[NB (x + y), .int .i64 0]) ∧ Below w.heap.size w w' := by
  have H : Hid _ := sum_yes x y
  go_enter Tryz.func146, Tryz.ntmps146
  go_wp2_with (go_at_call 181; refine (H.out _ hx hy h).mono ?_; rintro e w1 ⟨rfl, hb⟩; obtain ⟨hc, hf⟩ := bcell hb; obtain ⟨B, z⟩ := below4 hb)
  refine bodyPost_ret (v := .tuple #[NB (x + y), .int .i64 0]) (by simp [results, Tryz.results146, go_sem, hc]) rfl ⟨rfl, ?_⟩
  go_grown
set_option maxHeartbeats 1000000 in
theorem rn_add_no (hx : -18446744073709551616 < x ∧ x < 18446744073709551616) (hy : -18446744073709551616 < y ∧ y < 18446744073709551616) (h : room (x + y) = false) :
    Calls Tryz.prog 146 #[.int .i64 1, NB x, NB y] w fun e w' => e = .returned (.tuple #[N0, .int .i64 1]) ∧ Below w.heap.size w w' := by
  have H : Hid _ := sum_no x y
  go_enter Tryz.func146, Tryz.ntmps146
  go_wp2_with (go_at_call 181; refine (H.out _ hx hy h).mono ?_; rintro e w1 ⟨⟨v, rfl⟩, hb⟩; obtain ⟨hc, hf⟩ := bcell hb; obtain ⟨B, z⟩ := below4 hb)
  refine bodyPost_ret (v := .tuple #[N0, .int .i64 1]) (by simp [results, Tryz.results146, go_sem, hc]) rfl ⟨rfl, ?_⟩
  go_grown
set_option maxHeartbeats 1000000 in
theorem rn_mul_yes (hx : -18446744073709551616 < x ∧ x < 18446744073709551616) (hy : -18446744073709551616 < y ∧ y < 18446744073709551616) (h : room (x * y) = true) :
    Calls Tryz.prog 146 #[.int .i64 3, NB x, NB y] w fun e w' => e = .returned (.tuple #[NB (x * y), .int .i64 0]) ∧ Below w.heap.size w w' := by
  have H : Hid _ := product_yes x y
  go_enter Tryz.func146, Tryz.ntmps146
  go_wp2_with (go_at_call 182; refine (H.out _ hx hy h).mono ?_; rintro e w1 ⟨rfl, hb⟩; obtain ⟨hc, hf⟩ := bcell hb; obtain ⟨B, z⟩ := below4 hb)
  refine bodyPost_ret (v := .tuple #[NB (x * y), .int .i64 0]) (by simp [results, Tryz.results146, go_sem, hc]) rfl ⟨rfl, ?_⟩
  go_grown
set_option maxHeartbeats 1000000 in
theorem rn_mul_no (hx : -18446744073709551616 < x ∧ x < 18446744073709551616) (hy : -18446744073709551616 < y ∧ y < 18446744073709551616) (h : room (x * y) = false) :
    Calls Tryz.prog 146 #[.int .i64 3, NB x, NB y] w fun e w' => e = .returned (.tuple #[N0, .int .i64 1]) ∧ Below w.heap.size w w' := by
  have H : Hid _ := product_no x y
  go_enter Tryz.func146, Tryz.ntmps146
  go_wp2_with (go_at_call 182; refine (H.out _ hx hy h).mono ?_; rintro e w1 ⟨⟨v, rfl⟩, hb⟩; obtain ⟨hc, hf⟩ := bcell hb; obtain ⟨B, z⟩ := below4 hb)
  refine bodyPost_ret (v := .tuple #[N0, .int .i64 1]) (by simp [results, Tryz.results146, go_sem, hc]) rfl ⟨rfl, ?_⟩
  go_grown
set_option maxHeartbeats 1000000 in
theorem rn_zero (op : Int) (o : op = 4 ∨ op = 5) :
    Calls Tryz.prog 146 #[.int .i64 op, NB x, N0] w fun e w' => e = .returned (.tuple #[N0, .int .i64 2]) ∧ Below w.heap.size w w' := by
  rcases o with rfl | rfl
  all_goals
    go_enter Tryz.func146, Tryz.ntmps146
    go_wp2
    refine bodyPost_ret (v := .tuple #[N0, .int .i64 2]) (by simp [results, Tryz.results146, go_sem]) rfl ⟨rfl, ?_⟩
    go_grown
set_option maxHeartbeats 1000000 in
theorem rn_sub_yes (hx : -18446744073709551616 < x ∧ x < 18446744073709551616) (hy : -18446744073709551616 < y ∧ y < 18446744073709551616) (h : room (x + -y) = true) :
    Calls Tryz.prog 146 #[.int .i64 2, NB x, NB y] w fun e w' => e = .returned (.tuple #[NB (x + -y), .int .i64 0]) ∧ Below w.heap.size w w' := by
  have H : Hid _ := fun w => sum_yes x (-y) w hx (by omega) h
  clear h
  have q0 : ¬ w.heap.size + 1 + 1 + 1 = w.heap.size := by omega
  have q1 : ¬ w.heap.size + 1 + 1 = w.heap.size := by omega
  go_enter Tryz.func146, Tryz.ntmps146
  go_wp2_with fail
  go_region_held3 (fun w' => w'.cell? ⟨w.heap.size, 0, none⟩ = some (.bool (decide (x < 0))) ∧ w'.cell? ⟨w.heap.size, 1, none⟩ = some (.int .u64 x.natAbs) ∧ w'.cell? ⟨w.heap.size + 1, 0, none⟩ = some (.bool (decide (y < 0))) ∧ w'.cell? ⟨w.heap.size + 1, 1, none⟩ = some (.int .u64 y.natAbs)) (go_keep)
    (first | (go_at_call 150; refine (opposite_of _ _).mono ?_; rintro e w1 ⟨rfl, hb⟩; obtain ⟨B, z⟩ := steps4 hb; obtain ⟨y0, n0, n1, n2, n3, n4, n5⟩ := steps4b hb z) | (go_at_call 181; refine (H.out _).mono ?_; rintro e w2 ⟨rfl, hb2⟩; obtain ⟨z2, m0, m1, m2, m3, m4, m5⟩ := steps4b hb2 y0))
  have B2 := B.trans (hb2.mono (by omega))
  go_wp2
  refine bodyPost_ret (v := .tuple #[NB (x + -y), .int .i64 0]) (by simp [results, Tryz.results146, go_sem, m2, n2]) rfl ⟨rfl, ?_⟩
  go_grown
set_option maxHeartbeats 1000000 in
theorem rn_sub_no (hx : -18446744073709551616 < x ∧ x < 18446744073709551616) (hy : -18446744073709551616 < y ∧ y < 18446744073709551616) (h : room (x + -y) = false) :
    Calls Tryz.prog 146 #[.int .i64 2, NB x, NB y] w fun e w' => e = .returned (.tuple #[N0, .int .i64 1]) ∧ Below w.heap.size w w' := by
  have H : Hid _ := fun w => sum_no x (-y) w hx (by omega) h
  clear h
  have q0 : ¬ w.heap.size + 1 + 1 + 1 = w.heap.size := by omega
  have q1 : ¬ w.heap.size + 1 + 1 = w.heap.size := by omega
  go_enter Tryz.func146, Tryz.ntmps146
  go_wp2_with fail
  go_region_held3 (fun w' => w'.cell? ⟨w.heap.size, 0, none⟩ = some (.bool (decide (x < 0))) ∧ w'.cell? ⟨w.heap.size, 1, none⟩ = some (.int .u64 x.natAbs) ∧ w'.cell? ⟨w.heap.size + 1, 0, none⟩ = some (.bool (decide (y < 0))) ∧ w'.cell? ⟨w.heap.size + 1, 1, none⟩ = some (.int .u64 y.natAbs)) (go_keep)
    (first | (go_at_call 150; refine (opposite_of _ _).mono ?_; rintro e w1 ⟨rfl, hb⟩; obtain ⟨B, z⟩ := steps4 hb; obtain ⟨y0, n0, n1, n2, n3, n4, n5⟩ := steps4b hb z) | (go_at_call 181; refine (H.out _).mono ?_; rintro e w2 ⟨⟨v, rfl⟩, hb2⟩; obtain ⟨z2, m0, m1, m2, m3, m4, m5⟩ := steps4b hb2 y0))
  have B2 := B.trans (hb2.mono (by omega))
  go_wp2
  refine bodyPost_ret (v := .tuple #[N0, .int .i64 1]) (by simp [results, Tryz.results146, go_sem, m2, n2]) rfl ⟨rfl, ?_⟩
  go_grown
end
set_option maxHeartbeats 1000000 in
theorem rn_div_raw (p q : Bool) (x y : Int) (w : World) (hx0 : 0 ≤ x) (hx : x < 18446744073709551616) (hy0 : 0 < y) (hy : y < 18446744073709551616) :
    Calls Tryz.prog 146 #[.int .i64 4, .agg #[.bool p, .int .u64 x], .agg #[.bool q, .int .u64 y]] w fun e w' => e = .returned (.tuple #[NB (sgn (p != q) (x / y)), .int .i64 0]) ∧ Below w.heap.size w w' := by
  have h' : (y == 0) = false := by simp; omega
  have h2 : ¬ y = 0 := by omega
  have m0 : 0 ≤ x / y := Int.ediv_nonneg hx0 (by omega)
  have m1 : x / y < 18446744073709551616 := by have := Int.ediv_le_self y hx0; omega
  have m2 : IntKind.u64.wrap (x / y) = x / y := by rw [IntKind.wrap_u64]; omega
  have m3 : x.tdiv y = x / y := Int.tdiv_eq_ediv_of_nonneg hx0
  have q0 : ¬ w.heap.size + 1 + 1 + 1 = w.heap.size := by omega
  have q1 : ¬ w.heap.size + 1 + 1 = w.heap.size := by omega
  have S : Hid _ := fun w => signed_of (p != q) (x / y) w m0
  go_enter Tryz.func146, Tryz.ntmps146
  go_wp2_with fail
  go_region_held3 (fun w' => w'.cell? ⟨w.heap.size, 0, none⟩ = some (.bool p) ∧ w'.cell? ⟨w.heap.size, 1, none⟩ = some (.int .u64 x) ∧ w'.cell? ⟨w.heap.size + 1, 0, none⟩ = some (.bool q) ∧ w'.cell? ⟨w.heap.size + 1, 1, none⟩ = some (.int .u64 y)) (go_keep)
    (first | (go_at_call 183; refine (S.out _).mono ?_; rintro e w1 ⟨rfl, hb⟩; obtain ⟨B, z⟩ := steps4 hb; obtain ⟨y0, n0, n1, n2, n3, n4, n5⟩ := steps4b hb z))
  go_wp2
  refine bodyPost_ret (v := .tuple #[NB (sgn (p != q) (x / y)), .int .i64 0]) (by simp [results, Tryz.results146, go_sem, n2]) rfl ⟨rfl, ?_⟩
  go_grown
set_option maxHeartbeats 1000000 in
theorem rn_mod_raw (p q : Bool) (x y : Int) (w : World) (hx0 : 0 ≤ x) (hx : x < 18446744073709551616) (hy0 : 0 < y) (hy : y < 18446744073709551616) :
    Calls Tryz.prog 146 #[.int .i64 5, .agg #[.bool p, .int .u64 x], .agg #[.bool q, .int .u64 y]] w fun e w' => e = .returned (.tuple #[NB (sgn p (x % y)), .int .i64 0]) ∧ Below w.heap.size w w' := by
  have h' : (y == 0) = false := by simp; omega
  have h2 : ¬ y = 0 := by omega
  have m0 : 0 ≤ x % y := Int.emod_nonneg x (by omega)
  have m1 : x % y < 18446744073709551616 := by have := Int.emod_lt_of_pos x hy0; omega
  have m2 : IntKind.u64.wrap (x % y) = x % y := by rw [IntKind.wrap_u64]; omega
  have m3 : x.tmod y = x % y := Int.tmod_eq_emod_of_nonneg hx0
  have q0 : ¬ w.heap.size + 1 + 1 + 1 = w.heap.size := by omega
  have q1 : ¬ w.heap.size + 1 + 1 = w.heap.size := by omega
  have S : Hid _ := fun w => signed_of p (x % y) w m0
  go_enter Tryz.func146, Tryz.ntmps146
  go_wp2_with fail
  go_region_held3 (fun w' => w'.cell? ⟨w.heap.size, 0, none⟩ = some (.bool p) ∧ w'.cell? ⟨w.heap.size, 1, none⟩ = some (.int .u64 x) ∧ w'.cell? ⟨w.heap.size + 1, 1, none⟩ = some (.int .u64 y)) (go_keep)
    (first | (go_at_call 183; refine (S.out _).mono ?_; rintro e w1 ⟨rfl, hb⟩; obtain ⟨B, z⟩ := steps4 hb; obtain ⟨y0, n0, n1, n2, n3, n4, n5⟩ := steps4b hb z))
  go_wp2
  refine bodyPost_ret (v := .tuple #[NB (sgn p (x % y)), .int .i64 0]) (by simp [results, Tryz.results146, go_sem, n2]) rfl ⟨rfl, ?_⟩
  go_grown
/-- What reckonNumbers answers. -/
def rnR (op x y : Int) : Value :=
  if (op = 4 ∨ op = 5) ∧ y = 0 then .tuple #[N0, .int .i64 2] else if room (opI op x y) then .tuple #[NB (opI op x y), .int .i64 0] else .tuple #[N0, .int .i64 1]
theorem sgn_div (x y : Int) : sgn (decide (x < 0) != decide (y < 0)) ((x.natAbs : Int) / y.natAbs) = x.tdiv y := by
  by_cases d : x < 0 <;> by_cases d2 : y < 0
  · have e1 : (x.natAbs : Int) = -x := by omega
    have e2 : (y.natAbs : Int) = -y := by omega
    simp only [sgn, d, d2, decide_true, bne_self_eq_false, Bool.false_eq_true, if_false]
    rw [e1, e2, ← Int.tdiv_eq_ediv_of_nonneg (by omega), Int.neg_tdiv, Int.tdiv_neg, Int.neg_neg]
  · have e1 : (x.natAbs : Int) = -x := by omega
    have e2 : (y.natAbs : Int) = y := by omega
    simp [sgn, d, d2]
    rw [e1, e2, ← Int.tdiv_eq_ediv_of_nonneg (by omega), Int.neg_tdiv, Int.neg_neg]
  · have e1 : (x.natAbs : Int) = x := by omega
    have e2 : (y.natAbs : Int) = -y := by omega
    simp [sgn, d, d2]
    rw [e1, e2, ← Int.tdiv_eq_ediv_of_nonneg (by omega), Int.tdiv_neg, Int.neg_neg]
  · have e1 : (x.natAbs : Int) = x := by omega
    have e2 : (y.natAbs : Int) = y := by omega
    simp [sgn, d, d2]
    rw [e1, e2, ← Int.tdiv_eq_ediv_of_nonneg (by omega)]
theorem sgn_mod (x y : Int) : sgn (decide (x < 0)) ((x.natAbs : Int) % y.natAbs) = x.tmod y := by
  have h : ∀ z : Int, 0 ≤ z → z.tmod y = z % (y.natAbs : Int) := by
    intro z hz
    rw [Int.tmod_eq_emod_of_nonneg hz]
    by_cases c : 0 ≤ y
    · rw [show (y.natAbs : Int) = y by omega]
    · rw [show (y.natAbs : Int) = -y by omega, Int.emod_neg]
  by_cases d : x < 0
  · have e1 : (x.natAbs : Int) = -x := by omega
    simp only [sgn, d, decide_true, if_true]
    rw [e1, ← h (-x) (by omega), Int.neg_tmod, Int.neg_neg]
  · have e1 : (x.natAbs : Int) = x := by omega
    simp only [sgn, d, decide_false, Bool.false_eq_true, if_false]
    rw [e1, ← h x (by omega)]
theorem room_t {n : Int} (h : -18446744073709551616 < n ∧ n < 18446744073709551616) : room n = true := by simpa [room] using h
theorem reckonNumbers_of (op x y : Int) (w : World) (ho : 1 ≤ op ∧ op ≤ 5) (hx : -18446744073709551616 < x ∧ x < 18446744073709551616) (hy : -18446744073709551616 < y ∧ y < 18446744073709551616) :
    Calls Tryz.prog 146 #[.int .i64 op, NB x, NB y] w fun e w' => e = .returned (rnR op x y) ∧ Below w.heap.size w w' := by
  have : op = 1 ∨ op = 2 ∨ op = 3 ∨ op = 4 ∨ op = 5 := by omega
  unfold rnR
  rcases this with rfl | rfl | rfl | rfl | rfl
  · rw [if_neg (by omega), show opI 1 x y = x + y from rfl]
    cases h : room (x + y)
    · rw [if_neg (by simp)]; exact rn_add_no x y w hx hy h
    · rw [if_pos rfl]; exact rn_add_yes x y w hx hy h
  · rw [if_neg (by omega), show opI 2 x y = x - y from rfl, Int.sub_eq_add_neg]
    cases h : room (x + -y)
    · rw [if_neg (by simp)]; exact rn_sub_no x y w hx hy h
    · rw [if_pos rfl]; exact rn_sub_yes x y w hx hy h
  · rw [if_neg (by omega), show opI 3 x y = x * y from rfl]
    cases h : room (x * y)
    · rw [if_neg (by simp)]; exact rn_mul_no x y w hx hy h
    · rw [if_pos rfl]; exact rn_mul_yes x y w hx hy h
  · by_cases z : y = 0
    · subst z
      rw [if_pos (by omega)]
      exact rn_zero x w 4 (.inl rfl)
    · rw [if_neg (by omega), show opI 4 x y = x.tdiv y from rfl]
      have := tdiv_bd x y
      rw [room_t (by omega), if_pos rfl]
      rw [← sgn_div x y]
      exact rn_div_raw (decide (x < 0)) (decide (y < 0)) x.natAbs y.natAbs w (by omega) (by omega) (by omega) (by omega)
  · by_cases z : y = 0
    · subst z
      rw [if_pos (by omega)]
      exact rn_zero x w 5 (.inr rfl)
    · rw [if_neg (by omega), show opI 5 x y = x.tmod y from rfl]
      have := tmod_bd x y
      rw [room_t (by omega), if_pos rfl]
      rw [← sgn_mod x y]
      exact rn_mod_raw (decide (x < 0)) (decide (y < 0)) x.natAbs y.natAbs w (by omega) (by omega) (by omega) (by omega)
end Go.Proofs.YtkanhbokdjppoaaGreatDoor
