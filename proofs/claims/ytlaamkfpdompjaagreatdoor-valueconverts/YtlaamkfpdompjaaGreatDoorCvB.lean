/- What value.rounded answers of a float that may be: a number, if any; no statement of the seat is proved here. -/
import Derived.Test.YtlaamkfpdompjaaGreatDoorCvA
import Derived.Test.YtlaamkfpdompjaaGreatDoorLreal
import Derived.Laws.FloatArith
namespace Go.Proofs.YtlaamkfpdompjaaGreatDoor
set_option linter.unusedVariables false
open Go.RowKit
/-- A float rounded to a whole number. -/
def rte (x : Nat) : Nat := match FloatKind.f64.decode x with
  | .nan s t => x
  | d => FloatKind.f64.encode (d.integral .even)
/-- A NaN that is quiet, or none. -/
def calm (x : Nat) : Prop := ∀ s t, FloatKind.f64.decode x = .nan s t → FloatKind.f64.format.quiet t = t
def rteS (x : Nat) (d : Ieee.Datum) : Sem Value := match d with
  | .nan s t =>
    if FloatKind.f64.format.quiet t = t then pure (.float .f64 x) else do
    let kept ← choose (.extern "math.Floor,Ceil,Trunc,RoundToEven.signallingNaN kept" 2)
    pure (.float .f64 (if kept == 1 then x else FloatKind.f64.encode (.nan s (FloatKind.f64.format.quiet t))))
  | d => pure (.float .f64 (FloatKind.f64.encode (d.integral .even)))
theorem rteS_run (x : Nat) (h : calm x) (w : World) : (rteS x (FloatKind.f64.decode x)).run Tryz.prog w = .ok (.float .f64 (rte x)) w := by
  unfold rte
  unfold calm at h
  cases e : FloatKind.f64.decode x with
  | nan s t =>
    have q := h s t e
    show (if FloatKind.f64.format.quiet t = t then pure (.float .f64 x) else _ : Sem Value).run Tryz.prog w = _
    rw [if_pos q]
    rfl
  | _ => rfl
theorem call_round (x : Nat) (h : calm x) (w : World) : (callFunc 51 #[.float .f64 x]).run Tryz.prog w = .ok (.value (.float .f64 (rte x))) w := by
  refine (run_callFunc_extern (e := Extern.MathFloor.toIntegral "math.RoundToEven" .even) Tryz.func51 (by kernel_rfl) (by kernel_rfl) (by kernel_rfl) (by kernel_rfl) _ w).trans ?_
  have : Extern.MathFloor.toIntegral "math.RoundToEven" .even #[.float .f64 x] = rteS x (FloatKind.f64.decode x) := rfl
  rw [this, rteS_run x h w]
  rfl
theorem wrap_u64_bd (n : Int) : 0 ≤ IntKind.u64.wrap n ∧ IntKind.u64.wrap n < 18446744073709551616 := by
  rw [IntKind.wrap_u64]
  omega
theorem conv_run (b : Nat) (w : World) : ∃ m w', (convert 33 23 (.float .f64 b)).run Tryz.prog w = .ok (.int .u64 m) w' ∧ 0 ≤ m ∧ m < 18446744073709551616 ∧ (w' = w ∨ w' = w.drew) := by
  cases h : floatToIntVal .f64 b .u64 with
  | some n =>
    refine ⟨n, w, run_convert_float_int w 33 23 .f64 .u64 b n (by rw [Tryz.underlying33]; rfl) Tryz.underlying23 h, ?_, ?_, Or.inl rfl⟩
    · have := bounds_u64 (floatToIntVal_wf h)
      omega
    · have := bounds_u64 (floatToIntVal_wf h)
      omega
  | none =>
    have e : (convert 33 23 (.float .f64 b)).run Tryz.prog w = .ok (.int .u64 (IntKind.u64.wrap (Question.cut (.floatToInt .f64 b .u64) (w.tape w.drawn (.floatToInt .f64 b .u64))))) w.drew := by
      unfold floatToIntVal at h
      split at h
      · rename_i m he
        split at h
        · cases h
        · rename_i hb
          simp [convert, run_underlying Tryz.underlying33, run_underlying Tryz.underlying23, Conv.floatToInt, he, hb, Question.forced]
      · rename_i he
        simp [convert, run_underlying Tryz.underlying33, run_underlying Tryz.underlying23, Conv.floatToInt, he, Question.forced]
    exact ⟨_, _, e, (wrap_u64_bd _).1, (wrap_u64_bd _).2, Or.inr rfl⟩
theorem Abs_of (x : Nat) (w : World) : Calls Tryz.prog 50 #[.float .f64 x] w fun e w' => e = .returned (.float .f64 (bits BinOp.andNot IntKind.u64 (x : Int) 9223372036854775808).toNat) ∧ w' = w := by
  have hx := call_bits
  have hy := call_frombits
  go_enter Tryz.func50, Tryz.ntmps50
  go_wp2
  go_ret
  exact ⟨rfl, rfl⟩
theorem IsNaN_of (x : Nat) (w : World) : Calls Tryz.prog 23 #[.float .f64 x] w fun e w' => e = .returned (.bool (fnan x)) ∧ w' = w := by
  have h := order_self_ne x
  go_enter Tryz.func23, Tryz.ntmps23
  go_wp2
  go_ret
  refine ⟨ret_bool ?_, rfl⟩
  rfl
theorem sgn_bd (p : Bool) (m : Int) (h0 : 0 ≤ m) (h1 : m < 18446744073709551616) : -18446744073709551616 < sgn p m ∧ sgn p m < 18446744073709551616 := by
  unfold sgn
  split <;> omega
theorem box2 {w wc w' : World} {T : TypeId} (hw : wc = w.alloc (.cells #[.bool false, .int .u64 0] T) ∨ wc = (w.alloc (.cells #[.bool false, .int .u64 0] T)).drew) (hb : Below wc.heap.size wc w') :
    Below w.heap.size w w' ∧ w.heap.size < w'.heap.size ∧ w'.cell? ⟨w.heap.size, 0, none⟩ = some (.bool false) ∧ w'.cell? ⟨w.heap.size, 1, none⟩ = some (.int .u64 0) ∧ w'.frozen? ⟨w.heap.size, 0, none⟩ = false ∧ w'.frozen? ⟨w.heap.size, 1, none⟩ = false := by
  have B : Below w.heap.size w wc := by
    rcases hw with rfl | rfl
    · exact (Below.refl _ _).alloc (Nat.le_refl _) _
    · exact ((Below.refl _ _).alloc (Nat.le_refl _) _).drew
  have l : w.heap.size < wc.heap.size := by rcases hw with rfl | rfl <;> simp
  refine ⟨B.trans (hb.mono B.size), Nat.lt_of_lt_of_le l hb.size, ?_, ?_, ?_, ?_⟩
  · rw [hb.cell (p := ⟨w.heap.size, 0, none⟩) l]
    rcases hw with rfl | rfl <;> simp
  · rw [hb.cell (p := ⟨w.heap.size, 1, none⟩) l]
    rcases hw with rfl | rfl <;> simp
  · rw [hb.frozen (p := ⟨w.heap.size, 0, none⟩) l]
    rcases hw with rfl | rfl <;> simp
  · rw [hb.frozen (p := ⟨w.heap.size, 1, none⟩) l]
    rcases hw with rfl | rfl <;> simp
set_option maxRecDepth 100000 in
set_option maxHeartbeats 1000000 in
theorem rounded_of (x : Nat) (h : calm x) (w : World) : Calls Tryz.prog 27 #[.float .f64 x] w fun e w' => RdN e ∧ Below w.heap.size w w' := by
  have hr := call_round x h
  clear h
  obtain ⟨m, wc, hcv, m0, m1, hw⟩ := conv_run (bits BinOp.andNot IntKind.u64 (rte x : Int) 9223372036854775808).toNat (w.alloc (.cells #[.bool false, .int .u64 0] 40))
  have HW : Hid _ := hw
  clear hw
  cases c1 : fnan x
  · cases c2 : (FloatKind.f64.format.order (bits BinOp.andNot IntKind.u64 (rte x : Int) 9223372036854775808).toNat 4895412794951729152 == some Ordering.gt || FloatKind.f64.format.order (bits BinOp.andNot IntKind.u64 (rte x : Int) 9223372036854775808).toNat 4895412794951729152 == some Ordering.eq)
    · rw [Bool.or_eq_false_iff] at c2
      obtain ⟨c2, c3⟩ := c2
      go_enter Tryz.func27, Tryz.ntmps27
      go_wp2_with (first
        | (go_at_call 50; refine (Abs_of _ _).mono ?_; rintro e w' ⟨rfl, rfl⟩)
        | (go_at_call 23; refine (IsNaN_of _ _).mono ?_; rintro e w' ⟨rfl, rfl⟩)
        | (go_at_call 52; refine (signed_of _ _ _ m0).mono ?_; rintro e w' ⟨rfl, hb⟩; obtain ⟨B, l, q0, q1, f0, f1⟩ := box2 HW.out hb))
      generalize (FloatKind.f64.format.order x 0 == some Ordering.lt) = p
      exact bodyPost_ret (v := .tuple #[NB (sgn p m), .bool true]) (by simp [results, Tryz.results27, go_sem, q0, q1, NB]) rfl ⟨⟨sgn p m, true, rfl, (sgn_bd p m m0 m1).1, (sgn_bd p m m0 m1).2⟩, (B.setCell (by simp) _).setCell (by simp) _⟩
    · rw [Bool.or_eq_true_iff] at c2
      rcases c2 with c2 | c2
      all_goals
        go_enter Tryz.func27, Tryz.ntmps27
        go_wp2_with (first
          | (go_at_call 50; refine (Abs_of _ _).mono ?_; rintro e w' ⟨rfl, rfl⟩)
          | (go_at_call 23; refine (IsNaN_of _ _).mono ?_; rintro e w' ⟨rfl, rfl⟩))
        exact bodyPost_ret (v := .tuple #[NB 0, .bool false]) (by rw [rd_zero]; simp [results, Tryz.results27, go_sem]) rfl ⟨⟨0, false, rfl, by omega, by omega⟩, (Below.refl _ _).alloc (Nat.le_refl _) _⟩
  · go_enter Tryz.func27, Tryz.ntmps27
    go_wp2_with (first
      | (go_at_call 50; refine (Abs_of _ _).mono ?_; rintro e w' ⟨rfl, rfl⟩)
      | (go_at_call 23; refine (IsNaN_of _ _).mono ?_; rintro e w' ⟨rfl, rfl⟩))
    exact bodyPost_ret (v := .tuple #[NB 0, .bool false]) (by rw [rd_zero]; simp [results, Tryz.results27, go_sem]) rfl ⟨⟨0, false, rfl, by omega, by omega⟩, (Below.refl _ _).alloc (Nat.le_refl _) _⟩
end Go.Proofs.YtlaamkfpdompjaaGreatDoor
