/- What the value package's signed, opposite, fitted and the document's made come to; no statement of the seat is proved here. -/
import Derived.Test.YtlaamkfpdompjaaGreatDoorOrd
namespace Go.Proofs.YtlaamkfpdompjaaGreatDoor
set_option linter.unusedVariables false
open Go.RowKit
abbrev E0 : ByteArray := ⟨#[]⟩
/-- A value and a fault: the value of that kind with those bits, or none and the fault. -/
abbrev RV (ok : Bool) (k b fault : Int) : Value := .tuple #[if ok then V k b E0 else V 0 0 E0, .int .i64 (if ok then 0 else fault)]
theorem RV_t {k b fault : Int} {ok : Bool} (h : ok = true) : Ending.returned (.tuple #[V k b E0, .int .i64 0]) = .returned (RV ok k b fault) := by simp [RV, h]
theorem RV_f {k b fault : Int} {ok : Bool} (h : ok = false) : Ending.returned (.tuple #[V 0 0 E0, .int .i64 fault]) = .returned (RV ok k b fault) := by simp [RV, h]
set_option maxHeartbeats 400000 in
theorem made_of (k b fault : Int) (w : World) (h0 : 0 ≤ b) (h1 : b < 18446744073709551616) (hk : 0 ≤ k ∧ k < 256) :
    Calls Tryz.prog 42 #[.int .u8 k, .int .u64 b, .int .i64 fault] w fun e w' => e = .returned (RV (mayW k b) k b fault) ∧ Below w.heap.size w w' := by
  cases c : mayW k b
  · go_enter Tryz.func42, Tryz.ntmps42
    go_wp2_with (first | (go_at_call 35; refine (may_of _ _ _ h0 h1 hk).mono ?_; rintro e w' ⟨rfl, rfl⟩))
    exact bodyPost_ret (v := .tuple #[V 0 0 E0, .int .i64 fault]) (by simp [results, Tryz.results42, go_sem]) rfl ⟨RV_f rfl, (Below.refl _ _).alloc (Nat.le_refl _) _⟩
  · go_enter Tryz.func42, Tryz.ntmps42
    go_wp2_with (first | (go_at_call 35; refine (may_of _ _ _ h0 h1 hk).mono ?_; rintro e w' ⟨rfl, rfl⟩))
    exact bodyPost_ret (v := .tuple #[V k b E0, .int .i64 0]) (by simp [results, Tryz.results42, go_sem]) rfl ⟨RV_t rfl, (Below.refl _ _).alloc (Nat.le_refl _) _⟩
/-- A number told by a sign and a size. -/
def sgn (below : Bool) (size : Int) : Int := if below then -size else size
theorem ret_NB {p : Bool} {a n : Int} (h : p = decide (n < 0)) (g : a = n.natAbs) : Ending.returned (.agg #[.bool p, .int .u64 a]) = .returned (NB n) := by rw [h, g]
set_option maxHeartbeats 400000 in
theorem signed_of (p : Bool) (a : Int) (w : World) (h0 : 0 ≤ a) :
    Calls Tryz.prog 52 #[.bool p, .int .u64 a] w fun e w' => e = .returned (NB (sgn p a)) ∧ Below w.heap.size w w' := by
  cases p
  · go_enter Tryz.func52, Tryz.ntmps52
    go_wp2
    exact bodyPost_ret (v := .agg #[.bool false, .int .u64 a]) (by simp [results, Tryz.results52, go_sem]) rfl ⟨NB_pos _ h0, (Below.refl _ _).alloc (Nat.le_refl _) _⟩
  · go_enter Tryz.func52, Tryz.ntmps52
    go_wp2
    exact bodyPost_ret (v := .agg #[.bool (a != 0), .int .u64 a]) (by simp [results, Tryz.results52, go_sem]) rfl ⟨ret_NB (by rw [Bool.eq_iff_iff]; simp [sgn]; omega) (by simp [sgn]; omega), (Below.refl _ _).alloc (Nat.le_refl _) _⟩
theorem sgn_not (n : Int) : sgn (!decide (n < 0)) n.natAbs = -n := by
  unfold sgn; by_cases h : n < 0
  · simp [h]; omega
  · simp [h]; omega
end Go.Proofs.YtlaamkfpdompjaaGreatDoor
