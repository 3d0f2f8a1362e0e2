/- What the value package's numbers come to: numberFrom, numberOf, order, within; no statement of the seat is proved here. -/
import Derived.Test.YtlaamkfpdompjaaGreatDoorMayV
import Derived.BigQuiet
namespace Go.Proofs.YtlaamkfpdompjaaGreatDoor
set_option linter.unusedVariables false
open Go.RowKit
/-- A whole number as the program holds it: is it below 0, and its size. -/
abbrev NB (n : Int) : Value := .agg #[.bool (decide (n < 0)), .int .u64 n.natAbs]
theorem NB_neg (n : Int) (h : n < 0) (g : -9223372036854775808 ≤ n) : Ending.returned (.agg #[.bool true, .int .u64 (IntKind.u64.wrap (-IntKind.u64.wrap n))]) = .returned (NB n) := by
  have e : IntKind.u64.wrap (-IntKind.u64.wrap n) = n.natAbs := by rw [IntKind.wrap_u64, IntKind.wrap_u64]; omega
  rw [e]; simp [NB, h]
theorem NB_pos (n : Int) (h : 0 ≤ n) : Ending.returned (.agg #[.bool false, .int .u64 n]) = .returned (NB n) := by
  have e : (n.natAbs : Int) = n := by omega
  have c : ¬ n < 0 := by omega
  simp [NB, c, e]
set_option maxHeartbeats 400000 in
theorem numberFrom_of (n : Int) (w : World) (g : -9223372036854775808 ≤ n ∧ n < 9223372036854775808) :
    Calls Tryz.prog 54 #[.int .i64 n] w fun e w' => e = .returned (NB n) ∧ Below w.heap.size w w' := by
  by_cases c : n < 0
  · go_enter Tryz.func54, Tryz.ntmps54
    go_wp2
    exact bodyPost_ret (v := .agg #[.bool true, .int .u64 (IntKind.u64.wrap (-IntKind.u64.wrap n))]) (by simp [results, Tryz.results54, go_sem]) rfl ⟨NB_neg n c g.1, (Below.refl _ _).alloc (Nat.le_refl _) _⟩
  · go_enter Tryz.func54, Tryz.ntmps54
    go_wp2
    exact bodyPost_ret (v := .agg #[.bool false, .int .u64 n]) (by simp [results, Tryz.results54, go_sem]) rfl ⟨NB_pos n (by omega), (Below.refl _ _).alloc (Nat.le_refl _) _⟩
def cmpI (a b : Int) : Int := if a < b then -1 else if b < a then 1 else 0
theorem cmpI_lt {a b : Int} (h : a < b) : -1 = cmpI a b := by unfold cmpI; rw [if_pos h]
theorem cmpI_gt {a b : Int} (h : b < a) : 1 = cmpI a b := by unfold cmpI; rw [if_neg (by omega), if_pos h]
theorem cmpI_eq {a b : Int} (h : ¬ a < b) (g : ¬ b < a) : 0 = cmpI a b := by unfold cmpI; rw [if_neg h, if_neg g]
/-- A value's number. -/
def num (k b : Int) : Int := if 2 ≤ k ∧ k ≤ 5 ∨ k = 14 then wrap64 b else b
theorem num_bd (k b : Int) (h0 : 0 ≤ b) (h1 : b < 18446744073709551616) : -9223372036854775808 ≤ num k b ∧ num k b < 18446744073709551616 := by
  unfold num wrap64; split <;> omega
theorem num_s {k b : Int} (h : 2 ≤ k ∧ k ≤ 5 ∨ k = 14) : num k b = wrap64 b := by unfold num; rw [if_pos h]
theorem num_u {k b : Int} (h : ¬ (2 ≤ k ∧ k ≤ 5 ∨ k = 14)) : num k b = b := by unfold num; rw [if_neg h]
theorem wrap64_bd (b : Int) : -9223372036854775808 ≤ wrap64 b ∧ wrap64 b < 9223372036854775808 := by unfold wrap64; omega
/-- Behind a call that only makes memory all old cells and marks read as before. -/
theorem bcell {W w1 : World} (hb : Below W.heap.size W w1) : (∀ b o, b < W.heap.size → w1.cell? ⟨b, o, none⟩ = W.cell? ⟨b, o, none⟩) ∧ (∀ b o, b < W.heap.size → w1.frozen? ⟨b, o, none⟩ = W.frozen? ⟨b, o, none⟩) :=
  ⟨fun b o h => hb.cell (p := ⟨b, o, none⟩) h, fun b o h => hb.frozen (p := ⟨b, o, none⟩) h⟩
/-- The end of a call that boxes one thing, makes another, calls, and stores into the second. -/
theorem below_two {w w1 : World} {x y : Obj} (hb : Below ((w.alloc x).alloc y).heap.size ((w.alloc x).alloc y) w1) {u v : Value} {i j : Nat} :
    Below w.heap.size w ((w1.setCell ⟨w.heap.size + 1, i, none⟩ u).setCell ⟨w.heap.size + 1, j, none⟩ v) :=
  (((((Below.refl _ _).alloc (Nat.le_refl _) _).alloc (by simp) _).trans (hb.mono (by simp; omega))).setCell (by simp) _).setCell (by simp) _
set_option maxHeartbeats 400000 in
theorem numberOf_s (k b : Int) (s : ByteArray) (w : World) (h0 : 0 ≤ b) (h1 : b < 18446744073709551616) (c1 : 2 ≤ k) (c2 : k ≤ 5) :
    Calls Tryz.prog 30 #[V k b s] w fun e w' => e = .returned (NB (num k b)) ∧ Below w.heap.size w w' := by
  rw [num_s (.inl ⟨c1, c2⟩)]
  go_enter Tryz.func30, Tryz.ntmps30
  go_wp2_with (first | (go_at_call 54; refine (numberFrom_of _ _ (wrap64_bd b)).mono ?_; rintro e w1 ⟨rfl, hb⟩; obtain ⟨hc, hf⟩ := bcell hb) | go_in)
  exact bodyPost_ret (v := NB (wrap64 b)) (by simp [results, Tryz.results30, go_sem, hc]) rfl ⟨rfl, below_two hb⟩
set_option maxHeartbeats 400000 in
theorem numberOf_t (b : Int) (s : ByteArray) (w : World) (h0 : 0 ≤ b) (h1 : b < 18446744073709551616) :
    Calls Tryz.prog 30 #[V 14 b s] w fun e w' => e = .returned (NB (num 14 b)) ∧ Below w.heap.size w w' := by
  rw [num_s (.inr rfl)]
  go_enter Tryz.func30, Tryz.ntmps30
  go_wp2_with (first | (go_at_call 54; refine (numberFrom_of _ _ (wrap64_bd b)).mono ?_; rintro e w1 ⟨rfl, hb⟩; obtain ⟨hc, hf⟩ := bcell hb) | go_in)
  exact bodyPost_ret (v := NB (wrap64 b)) (by simp [results, Tryz.results30, go_sem, hc]) rfl ⟨rfl, below_two hb⟩
set_option maxHeartbeats 400000 in
theorem numberOf_u1 (k b : Int) (s : ByteArray) (w : World) (h0 : 0 ≤ b) (h1 : b < 18446744073709551616) (c : k < 2) :
    Calls Tryz.prog 30 #[V k b s] w fun e w' => e = .returned (NB (num k b)) ∧ Below w.heap.size w w' := by
  rw [num_u (by omega)]
  have c14 : (k == 14) = false := by simp; omega
  go_enter Tryz.func30, Tryz.ntmps30
  go_wp2
  exact bodyPost_ret (v := .agg #[.bool false, .int .u64 b]) (by simp [results, Tryz.results30, go_sem]) rfl ⟨NB_pos b h0, ((Below.refl _ _).alloc (Nat.le_refl _) _).alloc (by simp) _⟩
set_option maxHeartbeats 400000 in
theorem numberOf_u2 (k b : Int) (s : ByteArray) (w : World) (h0 : 0 ≤ b) (h1 : b < 18446744073709551616) (c : 5 < k) (d : ¬ k = 14) :
    Calls Tryz.prog 30 #[V k b s] w fun e w' => e = .returned (NB (num k b)) ∧ Below w.heap.size w w' := by
  rw [num_u (by omega)]
  have c14 : (k == 14) = false := by simp; omega
  go_enter Tryz.func30, Tryz.ntmps30
  go_wp2
  exact bodyPost_ret (v := .agg #[.bool false, .int .u64 b]) (by simp [results, Tryz.results30, go_sem]) rfl ⟨NB_pos b h0, ((Below.refl _ _).alloc (Nat.le_refl _) _).alloc (by simp) _⟩
theorem numberOf_of (k b : Int) (s : ByteArray) (w : World) (h0 : 0 ≤ b) (h1 : b < 18446744073709551616) :
    Calls Tryz.prog 30 #[V k b s] w fun e w' => e = .returned (NB (num k b)) ∧ Below w.heap.size w w' := by
  by_cases a : k < 2
  · exact numberOf_u1 k b s w h0 h1 a
  by_cases c : k ≤ 5
  · exact numberOf_s k b s w h0 h1 (by omega) c
  by_cases d : k = 14
  · subst d; exact numberOf_t b s w h0 h1
  · exact numberOf_u2 k b s w h0 h1 (by omega) d
end Go.Proofs.YtlaamkfpdompjaaGreatDoor
