/- What the value package's sum comes to; no statement of the seat is proved here. -/
import Derived.Test.YtkanhbokdjppoaaGreatDoorRecM
import Derived.Handy
import Derived.Deep.Light
import Derived.Laws.Externs
import Derived.Lib.Mul64
import Derived.Laws.Bits64b
namespace Go.Proofs.YtkanhbokdjppoaaGreatDoor
set_option linter.unusedVariables false
open Go.RowKit
theorem add64_0 (x y : Int) (hx : 0 ≤ x) (hy : 0 ≤ y) (w : World) : (callFunc 204 #[.int .u64 x, .int .u64 y, .int .u64 0]).run Tryz.prog w =
    .ok (.value (.tuple #[.int .u64 ((x + y) % 18446744073709551616), .int .u64 ((x + y) / 18446744073709551616)])) w := by
  rw [run_callFunc_extern Tryz.func204 (by kernel_rfl) (by kernel_rfl) (by kernel_rfl) (e := add64Entry) (by kernel_rfl), run_add64 x y 0 hx hy (by omega) (by omega)]
  simp only [Result.andThen, Int.add_zero]
theorem below_n3 {w w1 : World} {x y z : Obj} (hb : Below (((w.alloc x).alloc y).alloc z).heap.size (((w.alloc x).alloc y).alloc z) w1) {u v : Value} {i j : Nat} :
    Below w.heap.size w ((w1.setCell ⟨w.heap.size + 1 + 1, i, none⟩ u).setCell ⟨w.heap.size + 1 + 1, j, none⟩ v) :=
  ((((((Below.refl _ _).alloc (Nat.le_refl _) _).alloc (by simp) _).alloc (by simp; omega) _).trans (hb.mono (by simp; omega))).setCell (by simp; omega) _).setCell (by simp; omega) _
set_option maxHeartbeats 1000000 in
theorem sum_same (p : Bool) (x y : Int) (w : World) (hx0 : 0 ≤ x) (hx : x < 18446744073709551616) (hy0 : 0 ≤ y) (hy : y < 18446744073709551616) :
    Calls Tryz.prog 181 #[.agg #[.bool p, .int .u64 x], .agg #[.bool p, .int .u64 y]] w fun e w' =>
      e = .returned (.tuple #[NB (sgn p ((x + y) % 18446744073709551616)), .bool ((x + y) / 18446744073709551616 == 0)]) ∧ Below w.heap.size w w' := by
  have m0 : 0 ≤ (x + y) % 18446744073709551616 := by omega
  cases p
  · go_enter Tryz.func181, Tryz.ntmps181
    go_wp2_with (first | simp only [add64_0 x y hx0 hy0] | (go_at_call 183; refine (signed_of _ _ _ m0).mono ?_; rintro e w1 ⟨rfl, hb⟩; obtain ⟨hc, hf⟩ := bcell hb))
    exact bodyPost_ret (v := .tuple #[NB (sgn false ((x + y) % 18446744073709551616)), .bool ((x + y) / 18446744073709551616 == 0)]) (by simp [results, Tryz.results181, go_sem, hc]) rfl ⟨rfl, below_n3 hb⟩
  · go_enter Tryz.func181, Tryz.ntmps181
    go_wp2_with (first | simp only [add64_0 x y hx0 hy0] | (go_at_call 183; refine (signed_of _ _ _ m0).mono ?_; rintro e w1 ⟨rfl, hb⟩; obtain ⟨hc, hf⟩ := bcell hb))
    exact bodyPost_ret (v := .tuple #[NB (sgn true ((x + y) % 18446744073709551616)), .bool ((x + y) / 18446744073709551616 == 0)]) (by simp [results, Tryz.results181, go_sem, hc]) rfl ⟨rfl, below_n3 hb⟩
set_option maxHeartbeats 1000000 in
theorem sum_more (p : Bool) (x y : Int) (w : World) (hx0 : 0 ≤ x) (hx : x < 18446744073709551616) (hy0 : 0 ≤ y) (hy : y < 18446744073709551616) (h : y ≤ x) :
    Calls Tryz.prog 181 #[.agg #[.bool p, .int .u64 x], .agg #[.bool (!p), .int .u64 y]] w fun e w' =>
      e = .returned (.tuple #[NB (sgn p (x - y)), .bool true]) ∧ Below w.heap.size w w' := by
  have m0 : 0 ≤ x - y := by omega
  cases p
  · go_enter Tryz.func181, Tryz.ntmps181
    go_wp2_with (first | (go_at_call 183; refine (signed_of _ _ _ m0).mono ?_; rintro e w1 ⟨rfl, hb⟩; obtain ⟨hc, hf⟩ := bcell hb))
    exact bodyPost_ret (v := .tuple #[NB (sgn false (x - y)), .bool true]) (by simp [results, Tryz.results181, go_sem, hc]) rfl ⟨rfl, below_n3 hb⟩
  · go_enter Tryz.func181, Tryz.ntmps181
    go_wp2_with (first | (go_at_call 183; refine (signed_of _ _ _ m0).mono ?_; rintro e w1 ⟨rfl, hb⟩; obtain ⟨hc, hf⟩ := bcell hb))
    exact bodyPost_ret (v := .tuple #[NB (sgn true (x - y)), .bool true]) (by simp [results, Tryz.results181, go_sem, hc]) rfl ⟨rfl, below_n3 hb⟩
set_option maxHeartbeats 1000000 in
theorem sum_less (p : Bool) (x y : Int) (w : World) (hx0 : 0 ≤ x) (hx : x < 18446744073709551616) (hy0 : 0 ≤ y) (hy : y < 18446744073709551616) (h : x < y) :
    Calls Tryz.prog 181 #[.agg #[.bool p, .int .u64 x], .agg #[.bool (!p), .int .u64 y]] w fun e w' =>
      e = .returned (.tuple #[NB (sgn (!p) (y - x)), .bool true]) ∧ Below w.heap.size w w' := by
  have m0 : 0 ≤ y - x := by omega
  cases p
  · go_enter Tryz.func181, Tryz.ntmps181
    go_wp2_with (first | (go_at_call 183; refine (signed_of _ _ _ m0).mono ?_; rintro e w1 ⟨rfl, hb⟩; obtain ⟨hc, hf⟩ := bcell hb))
    exact bodyPost_ret (v := .tuple #[NB (sgn true (y - x)), .bool true]) (by simp [results, Tryz.results181, go_sem, hc]) rfl ⟨rfl, below_n3 hb⟩
  · go_enter Tryz.func181, Tryz.ntmps181
    go_wp2_with (first | (go_at_call 183; refine (signed_of _ _ _ m0).mono ?_; rintro e w1 ⟨rfl, hb⟩; obtain ⟨hc, hf⟩ := bcell hb))
    exact bodyPost_ret (v := .tuple #[NB (sgn false (y - x)), .bool true]) (by simp [results, Tryz.results181, go_sem, hc]) rfl ⟨rfl, below_n3 hb⟩
/-- A sum of two numbers: it, and whether there is room for it; without room the number plays no part. -/
theorem sum_of (x y : Int) (w : World) (hx : -18446744073709551616 < x ∧ x < 18446744073709551616) (hy : -18446744073709551616 < y ∧ y < 18446744073709551616) :
    Calls Tryz.prog 181 #[NB x, NB y] w fun e w' => (∃ v, (room (x + y) = true → v = x + y) ∧ e = .returned (.tuple #[NB v, .bool (room (x + y))])) ∧ Below w.heap.size w w' := by
  by_cases c : decide (y < 0) = decide (x < 0)
  · have := sum_same (decide (x < 0)) x.natAbs y.natAbs w (by omega) (by omega) (by omega) (by omega)
    rw [show NB y = .agg #[.bool (decide (x < 0)), .int .u64 y.natAbs] by rw [← c]]
    refine this.mono fun e w' ⟨he, hb⟩ => ⟨⟨sgn (decide (x < 0)) (((x.natAbs : Int) + y.natAbs) % 18446744073709551616), ?_, ?_⟩, hb⟩
    · intro h
      simp [room] at h
      by_cases d : x < 0
      · have d2 : y < 0 := by simp [d] at c; omega
        simp [sgn, d]; omega
      · have d2 : ¬ y < 0 := by simp [d] at c; omega
        simp [sgn, d]; omega
    · rw [he]
      have : (((x.natAbs : Int) + y.natAbs) / 18446744073709551616 == 0) = room (x + y) := by
        rw [Bool.eq_iff_iff]
        by_cases d : x < 0
        · have d2 : y < 0 := by simp [d] at c; omega
          simp [room]; omega
        · have d2 : ¬ y < 0 := by simp [d] at c; omega
          simp [room]; omega
      rw [this]
  · have e1 : decide (y < 0) = !decide (x < 0) := by cases h : decide (y < 0) <;> cases g : decide (x < 0) <;> simp [h, g] at c ⊢
    have r : room (x + y) = true := by
      by_cases d : x < 0
      · have d2 : ¬ y < 0 := by simp [d] at e1; omega
        simp [room]; omega
      · have d2 : y < 0 := by simp [d] at e1; omega
        simp [room]; omega
    rw [show NB y = .agg #[.bool (!decide (x < 0)), .int .u64 y.natAbs] by rw [← e1], r]
    by_cases h : (y.natAbs : Int) ≤ x.natAbs
    · have := sum_more (decide (x < 0)) x.natAbs y.natAbs w (by omega) (by omega) (by omega) (by omega) h
      refine this.mono fun e w' ⟨he, hb⟩ => ⟨⟨x + y, fun _ => rfl, ?_⟩, hb⟩
      rw [he]
      have : sgn (decide (x < 0)) ((x.natAbs : Int) - y.natAbs) = x + y := by
        by_cases d : x < 0
        · have d2 : ¬ y < 0 := by simp [d] at e1; omega
          simp [sgn, d]; omega
        · have d2 : y < 0 := by simp [d] at e1; omega
          simp [sgn, d]; omega
      rw [this]
    · have := sum_less (decide (x < 0)) x.natAbs y.natAbs w (by omega) (by omega) (by omega) (by omega) (by omega)
      refine this.mono fun e w' ⟨he, hb⟩ => ⟨⟨x + y, fun _ => rfl, ?_⟩, hb⟩
      rw [he]
      have : sgn (!decide (x < 0)) ((y.natAbs : Int) - x.natAbs) = x + y := by
        by_cases d : x < 0
        · have d2 : ¬ y < 0 := by simp [d] at e1; omega
          simp [sgn, d]; omega
        · have d2 : y < 0 := by simp [d] at e1; omega
          simp [sgn, d]; omega
      rw [this]
end Go.Proofs.YtkanhbokdjppoaaGreatDoor
