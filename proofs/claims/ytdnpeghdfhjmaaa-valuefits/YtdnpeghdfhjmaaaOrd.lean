/- What the value package's order and within come to, and how a statement whose order Go leaves open is walked once where its calls only make memory; no statement of the seat is proved here. -/
import Derived.Test.YtdnpeghdfhjmaaaNums
import Derived.BigQuiet
namespace Go.Proofs.Ytdnpeghdfhjmaaa
set_option linter.unusedVariables false
open Go.RowKit
set_option maxHeartbeats 400000 in
theorem order_raw (p q : Bool) (a b : Int) (w : World) :
    Calls Try.prog 68 #[.agg #[.bool p, .int .u64 a], .agg #[.bool q, .int .u64 b]] w fun e w' =>
      e = .returned (.int .i64 (if p && !q then -1 else if q && !p then 1 else if p then cmpI b a else cmpI a b)) ∧ Below w.heap.size w w' := by
  cases p <;> cases q
  all_goals
    go_enter Try.func68, Try.ntmps68
    go_wp2_with (first | (go_at_call 75; refine (Compare_of _ _ _).mono ?_; rintro e w1 ⟨rfl, rfl⟩))
    go_ret
    exact ⟨ret_int (by simp), ((Below.refl _ _).alloc (Nat.le_refl _) _).alloc (by simp) _⟩
theorem order_of (a b : Int) (w : World) :
    Calls Try.prog 68 #[NB a, NB b] w fun e w' => e = .returned (.int .i64 (cmpI a b)) ∧ Below w.heap.size w w' := by
  refine (order_raw (decide (a < 0)) (decide (b < 0)) a.natAbs b.natAbs w).mono ?_
  rintro e w' ⟨rfl, hb⟩
  refine ⟨ret_int ?_, hb⟩
  by_cases ha : a < 0 <;> by_cases hb : b < 0 <;> simp only [ha, hb, decide_true, decide_false, Bool.not_true, Bool.not_false, Bool.and_true, Bool.and_false, if_true, if_false, Bool.false_eq_true] <;> unfold cmpI <;> (repeat' split) <;> omega
/-- A world in which nothing old has turned. -/
structure Sub (W : World) where
  w : World
  h : Below W.heap.size W w
theorem Sub.cell {W : World} (x : Sub W) (b o : Nat) (h : b < W.heap.size) : x.w.cell? ⟨b, o, none⟩ = W.cell? ⟨b, o, none⟩ := x.h.cell (p := ⟨b, o, none⟩) h
/-- One walk, in the text's order, of a region whose order Go leaves open, where each operation yields one value in every such world and leaves such a world. -/
theorem wp_region_sub {P : Program} {id : Nat} {Q : Exit → Act → World → Prop} {a : Act} {w : World} {l : List Oper} (hm : P.follows .mixedOrders = true) (hB : Region.lexB .any l.toArray = true)
    (h : wpQuiet P l.toArray (fun w' => ∃ x : Sub w, w' = x.w) (fun a' => ∀ w', (∃ x : Sub w, w' = x.w) → Q .normal a' w') l a) : (Code.region id l.toArray true).wp P Q a w :=
  wp_region_quiet (C := fun w' => ∃ x : Sub w, w' = x.w) hm hB ⟨⟨w.drew, (Below.refl _ _).drew⟩, rfl⟩ (by simpa using h)
theorem calls_sub {P : Program} {f : FuncId} {args : Array Value} {W : World} {x : Sub W} {v : Value} (h : Calls P f args x.w fun e w' => e = .returned v ∧ Below x.w.heap.size x.w w') :
    Calls P f args x.w fun e w'' => e = .returned v ∧ ∃ y : Sub W, w'' = y.w :=
  h.mono fun _ w' ⟨he, hb⟩ => ⟨he, ⟨w', x.h.trans (hb.mono x.h.size)⟩, rfl⟩
theorem calls_sub_same {P : Program} {f : FuncId} {args : Array Value} {W : World} {x : Sub W} {v : Value} (h : Calls P f args x.w fun e w' => e = .returned v ∧ w' = x.w) :
    Calls P f args x.w fun e w'' => e = .returned v ∧ ∃ y : Sub W, w'' = y.w :=
  h.mono fun _ w' ⟨he, hb⟩ => ⟨he, x, hb⟩
theorem win_f (n lo hi : Int) (c : n < lo) : false = decide (lo ≤ n ∧ n ≤ hi) := by symm; simp; omega
theorem win_t (n lo hi : Int) (c : ¬ n < lo) : decide (cmpI n hi ≤ 0) = decide (lo ≤ n ∧ n ≤ hi) := by
  rw [Bool.eq_iff_iff]; simp only [decide_eq_true_eq]; unfold cmpI; split <;> (try split) <;> omega
set_option maxHeartbeats 400000 in
theorem within_of (n lo hi : Int) (w : World) (g1 : -9223372036854775808 ≤ lo ∧ lo < 9223372036854775808) (g2 : -9223372036854775808 ≤ hi ∧ hi < 9223372036854775808) :
    Calls Try.prog 48 #[NB n, .int .i64 lo, .int .i64 hi] w fun e w' => e = .returned (.bool (decide (lo ≤ n ∧ n ≤ hi))) ∧ Below w.heap.size w w' := by
  by_cases c : n < lo
  · have d : decide (0 ≤ cmpI n lo) = false := by rw [← cmpI_lt c]; rfl
    go_enter Try.func48, Try.ntmps48
    go_wp2
    have hc0 : ∀ x : Sub (w.alloc (Obj.cells #[Value.bool (decide (n < 0)), Value.int IntKind.u64 ↑n.natAbs] 51)), x.w.cell? ⟨w.heap.size, 0, none⟩ = some (.bool (decide (n < 0))) := fun x => by rw [x.cell _ _ (by simp)]; simp
    have hc1 : ∀ x : Sub (w.alloc (Obj.cells #[Value.bool (decide (n < 0)), Value.int IntKind.u64 ↑n.natAbs] 51)), x.w.cell? ⟨w.heap.size, 1, none⟩ = some (.int .u64 n.natAbs) := fun x => by rw [x.cell _ _ (by simp)]; simp
    refine wp_region_sub (by kernel_rfl) (by kernel_rfl) ?_
    repeat (first | go_big_quiet_skip | (go_big_quiet_want; go_big_quiet_op; first | go_big_quiet_on | (refine ⟨_, fun _ => rfl, ?_⟩; go_big_quiet_on) | go_big_quiet_call (first | (go_at_call 32; refine calls_sub (numberFrom_of _ _ ?_); first | exact g1 | exact g2) | (go_at_call 68; exact calls_sub (order_of _ _ _)))))
    refine wpQuiet_nil ?_
    rintro _ ⟨x, rfl⟩
    go_wp2
    go_ret
    exact ⟨ret_bool (by first | exact win_f n lo hi c | exact win_t n lo hi (by omega)), ((Below.refl _ _).alloc (Nat.le_refl _) _).trans (x.h.mono (by simp))⟩
  · have d : 0 ≤ cmpI n lo := by unfold cmpI; rw [if_neg c]; split <;> omega
    go_enter Try.func48, Try.ntmps48
    go_wp2
    have hc0 : ∀ x : Sub (w.alloc (Obj.cells #[Value.bool (decide (n < 0)), Value.int IntKind.u64 ↑n.natAbs] 51)), x.w.cell? ⟨w.heap.size, 0, none⟩ = some (.bool (decide (n < 0))) := fun x => by rw [x.cell _ _ (by simp)]; simp
    have hc1 : ∀ x : Sub (w.alloc (Obj.cells #[Value.bool (decide (n < 0)), Value.int IntKind.u64 ↑n.natAbs] 51)), x.w.cell? ⟨w.heap.size, 1, none⟩ = some (.int .u64 n.natAbs) := fun x => by rw [x.cell _ _ (by simp)]; simp
    refine wp_region_sub (by kernel_rfl) (by kernel_rfl) ?_
    repeat (first | go_big_quiet_skip | (go_big_quiet_want; go_big_quiet_op; first | go_big_quiet_on | (refine ⟨_, fun _ => rfl, ?_⟩; go_big_quiet_on) | go_big_quiet_call (first | (go_at_call 32; refine calls_sub (numberFrom_of _ _ ?_); first | exact g1 | exact g2) | (go_at_call 68; exact calls_sub (order_of _ _ _)))))
    refine wpQuiet_nil ?_
    rintro _ ⟨x, rfl⟩
    go_wp2
    go_ret
    exact ⟨ret_bool (by first | exact win_f n lo hi c | exact win_t n lo hi (by omega)), ((Below.refl _ _).alloc (Nat.le_refl _) _).trans (x.h.mono (by simp))⟩
end Go.Proofs.Ytdnpeghdfhjmaaa
