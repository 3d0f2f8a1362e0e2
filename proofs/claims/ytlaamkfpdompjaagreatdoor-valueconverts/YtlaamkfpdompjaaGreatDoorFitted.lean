/- What the value package's fitted comes to; no statement of the seat is proved here. -/
import Derived.Test.YtlaamkfpdompjaaGreatDoorMade
namespace Go.Proofs.YtlaamkfpdompjaaGreatDoor
set_option linter.unusedVariables false
open Go.RowKit
/-- Is there a value of a kind that has that number? -/
def fitOk (k n : Int) : Bool := may3 k (n % 18446744073709551616) E0 && decide (num k (n % 18446744073709551616) = n)
theorem hE0 : E0.size ≤ maxLen := by decide
theorem May_is (k b : Int) (s : ByteArray) (w : World) (p : Bool) (h0 : 0 ≤ b) (h1 : b < 18446744073709551616) (hk : 0 ≤ k ∧ k < 256) (hs : s.size ≤ maxLen) (h : may3 k b s = p) :
    Calls Tryz.prog 7 #[V k b s] w fun e w' => e = .returned (.bool p) ∧ Below w.heap.size w w' := by
  rw [← h]; exact May_of k b s w h0 h1 hk hs
theorem numberOf_is (k b : Int) (s : ByteArray) (w : World) {p : Bool} {z : Int} (h0 : 0 ≤ b) (h1 : b < 18446744073709551616) (h : NB (num k b) = .agg #[.bool p, .int .u64 z]) :
    Calls Tryz.prog 30 #[V k b s] w fun e w' => e = .returned (.agg #[.bool p, .int .u64 z]) ∧ Below w.heap.size w w' := by
  rw [← h]; exact numberOf_of k b s w h0 h1
theorem below_three {w w1 : World} {x y z : Obj} (hb : Below (((w.alloc x).alloc y).alloc z).heap.size (((w.alloc x).alloc y).alloc z) w1) {u v t : Value} {i j l : Nat} :
    Below w.heap.size w (((w1.setCell ⟨w.heap.size + 1, i, none⟩ u).setCell ⟨w.heap.size + 1, j, none⟩ v).setCell ⟨w.heap.size + 1, l, none⟩ t) :=
  (((((((Below.refl _ _).alloc (Nat.le_refl _) _).alloc (by simp) _).alloc (by simp; omega) _).trans (hb.mono (by simp; omega))).setCell (by simp) _).setCell (by simp) _).setCell (by simp) _
set_option maxHeartbeats 1000000 in
theorem fitted_pa (k z fault : Int) (w : World) (hk : 0 ≤ k ∧ k < 256) (h0 : 0 ≤ z) (h1 : z < 18446744073709551616) (m : may3 k z E0 = false) (q : True) :
    Calls Tryz.prog 28 #[.int .u8 k, .agg #[.bool false, .int .u64 z], .int .i64 fault] w fun e w' => e = .returned (.tuple #[V 0 0 E0, .int .i64 fault]) ∧ Below w.heap.size w w' := by
  have hE := hE0
  go_enter Tryz.func28, Tryz.ntmps28
  go_wp2
  refine wp_region_sub2 (by kernel_rfl) (by kernel_rfl) ?_
  intro cx
  repeat (first | go_big_quiet_skip | (go_big_quiet_want; go_big_quiet_op; first | go_big_quiet_on | (refine ⟨_, fun _ => rfl, ?_⟩; go_big_quiet_on) | go_big_quiet_call (first | (go_at_call 7; exact calls_sub (May_is k z E0 _ false h0 h1 hk hE0 m)) | (go_at_call 30; exact calls_sub (numberOf_is k z E0 _ h0 h1 q)))))
  refine wpQuiet_nil ?_
  rintro _ ⟨x, rfl⟩
  have z0 : w.heap.size < x.w.heap.size ∧ w.heap.size + 1 < x.w.heap.size ∧ w.heap.size + 1 + 1 < x.w.heap.size := by have := x.h.size; simp at this; omega
  obtain ⟨z0, z1, z2⟩ := z0
  have fx := fun b o hb => x.h.frozen (p := ⟨b, o, none⟩) hb
  have cx2 := cx x
  clear cx hE
  go_wp2
  exact bodyPost_ret (v := .tuple #[V 0 0 E0, .int .i64 fault]) (by simp [results, Tryz.results28, go_sem, cx2]) rfl ⟨rfl, below_three x.h⟩
set_option maxHeartbeats 1000000 in
theorem fitted_pb (k z fault : Int) (w : World) (hk : 0 ≤ k ∧ k < 256) (h0 : 0 ≤ z) (h1 : z < 18446744073709551616) (m : may3 k z E0 = true) (q : NB (num k z) = .agg #[.bool false, .int .u64 z]) :
    Calls Tryz.prog 28 #[.int .u8 k, .agg #[.bool false, .int .u64 z], .int .i64 fault] w fun e w' => e = .returned (.tuple #[V k z E0, .int .i64 0]) ∧ Below w.heap.size w w' := by
  have hE := hE0
  go_enter Tryz.func28, Tryz.ntmps28
  go_wp2
  refine wp_region_sub2 (by kernel_rfl) (by kernel_rfl) ?_
  intro cx
  repeat (first | go_big_quiet_skip | (go_big_quiet_want; go_big_quiet_op; first | go_big_quiet_on | (refine ⟨_, fun _ => rfl, ?_⟩; go_big_quiet_on) | go_big_quiet_call (first | (go_at_call 7; exact calls_sub (May_is k z E0 _ true h0 h1 hk hE0 m)) | (go_at_call 30; exact calls_sub (numberOf_is k z E0 _ h0 h1 q)))))
  refine wpQuiet_nil ?_
  rintro _ ⟨x, rfl⟩
  have z0 : w.heap.size < x.w.heap.size ∧ w.heap.size + 1 < x.w.heap.size ∧ w.heap.size + 1 + 1 < x.w.heap.size := by have := x.h.size; simp at this; omega
  obtain ⟨z0, z1, z2⟩ := z0
  have fx := fun b o hb => x.h.frozen (p := ⟨b, o, none⟩) hb
  have cx2 := cx x
  clear cx hE
  go_wp2
  exact bodyPost_ret (v := .tuple #[V k z E0, .int .i64 0]) (by simp [results, Tryz.results28, go_sem, cx2]) rfl ⟨rfl, below_three x.h⟩
set_option maxHeartbeats 1000000 in
theorem fitted_pc (k z fault : Int) (w : World) (hk : 0 ≤ k ∧ k < 256) (h0 : 0 ≤ z) (h1 : z < 18446744073709551616) (y : Int) (m : may3 k z E0 = true) (q : NB (num k z) = .agg #[.bool true, .int .u64 y]) :
    Calls Tryz.prog 28 #[.int .u8 k, .agg #[.bool false, .int .u64 z], .int .i64 fault] w fun e w' => e = .returned (.tuple #[V 0 0 E0, .int .i64 fault]) ∧ Below w.heap.size w w' := by
  have hE := hE0
  go_enter Tryz.func28, Tryz.ntmps28
  go_wp2
  refine wp_region_sub2 (by kernel_rfl) (by kernel_rfl) ?_
  intro cx
  repeat (first | go_big_quiet_skip | (go_big_quiet_want; go_big_quiet_op; first | go_big_quiet_on | (refine ⟨_, fun _ => rfl, ?_⟩; go_big_quiet_on) | go_big_quiet_call (first | (go_at_call 7; exact calls_sub (May_is k z E0 _ true h0 h1 hk hE0 m)) | (go_at_call 30; exact calls_sub (numberOf_is k z E0 _ h0 h1 q)))))
  refine wpQuiet_nil ?_
  rintro _ ⟨x, rfl⟩
  have z0 : w.heap.size < x.w.heap.size ∧ w.heap.size + 1 < x.w.heap.size ∧ w.heap.size + 1 + 1 < x.w.heap.size := by have := x.h.size; simp at this; omega
  obtain ⟨z0, z1, z2⟩ := z0
  have fx := fun b o hb => x.h.frozen (p := ⟨b, o, none⟩) hb
  have cx2 := cx x
  clear cx hE
  go_wp2
  exact bodyPost_ret (v := .tuple #[V 0 0 E0, .int .i64 fault]) (by simp [results, Tryz.results28, go_sem, cx2]) rfl ⟨rfl, below_three x.h⟩
set_option maxHeartbeats 1000000 in
theorem fitted_na (k z fault : Int) (w : World) (hk : 0 ≤ k ∧ k < 256) (h0 : 0 ≤ (IntKind.u64.wrap (-z))) (h1 : (IntKind.u64.wrap (-z)) < 18446744073709551616) (m : may3 k (IntKind.u64.wrap (-z)) E0 = false) (q : True) :
    Calls Tryz.prog 28 #[.int .u8 k, .agg #[.bool true, .int .u64 z], .int .i64 fault] w fun e w' => e = .returned (.tuple #[V 0 0 E0, .int .i64 fault]) ∧ Below w.heap.size w w' := by
  have hE := hE0
  go_enter Tryz.func28, Tryz.ntmps28
  go_wp2
  refine wp_region_sub2 (by kernel_rfl) (by kernel_rfl) ?_
  intro cx
  repeat (first | go_big_quiet_skip | (go_big_quiet_want; go_big_quiet_op; first | go_big_quiet_on | (refine ⟨_, fun _ => rfl, ?_⟩; go_big_quiet_on) | go_big_quiet_call (first | (go_at_call 7; exact calls_sub (May_is k (IntKind.u64.wrap (-z)) E0 _ false h0 h1 hk hE0 m)) | (go_at_call 30; exact calls_sub (numberOf_is k (IntKind.u64.wrap (-z)) E0 _ h0 h1 q)))))
  refine wpQuiet_nil ?_
  rintro _ ⟨x, rfl⟩
  have z0 : w.heap.size < x.w.heap.size ∧ w.heap.size + 1 < x.w.heap.size ∧ w.heap.size + 1 + 1 < x.w.heap.size := by have := x.h.size; simp at this; omega
  obtain ⟨z0, z1, z2⟩ := z0
  have fx := fun b o hb => x.h.frozen (p := ⟨b, o, none⟩) hb
  have cx2 := cx x
  clear cx hE
  go_wp2
  exact bodyPost_ret (v := .tuple #[V 0 0 E0, .int .i64 fault]) (by simp [results, Tryz.results28, go_sem, cx2]) rfl ⟨rfl, below_three x.h⟩
set_option maxHeartbeats 1000000 in
theorem fitted_nb (k z fault : Int) (w : World) (hk : 0 ≤ k ∧ k < 256) (h0 : 0 ≤ (IntKind.u64.wrap (-z))) (h1 : (IntKind.u64.wrap (-z)) < 18446744073709551616) (m : may3 k (IntKind.u64.wrap (-z)) E0 = true) (q : NB (num k (IntKind.u64.wrap (-z))) = .agg #[.bool true, .int .u64 z]) :
    Calls Tryz.prog 28 #[.int .u8 k, .agg #[.bool true, .int .u64 z], .int .i64 fault] w fun e w' => e = .returned (.tuple #[V k (IntKind.u64.wrap (-z)) E0, .int .i64 0]) ∧ Below w.heap.size w w' := by
  have hE := hE0
  go_enter Tryz.func28, Tryz.ntmps28
  go_wp2
  refine wp_region_sub2 (by kernel_rfl) (by kernel_rfl) ?_
  intro cx
  repeat (first | go_big_quiet_skip | (go_big_quiet_want; go_big_quiet_op; first | go_big_quiet_on | (refine ⟨_, fun _ => rfl, ?_⟩; go_big_quiet_on) | go_big_quiet_call (first | (go_at_call 7; exact calls_sub (May_is k (IntKind.u64.wrap (-z)) E0 _ true h0 h1 hk hE0 m)) | (go_at_call 30; exact calls_sub (numberOf_is k (IntKind.u64.wrap (-z)) E0 _ h0 h1 q)))))
  refine wpQuiet_nil ?_
  rintro _ ⟨x, rfl⟩
  have z0 : w.heap.size < x.w.heap.size ∧ w.heap.size + 1 < x.w.heap.size ∧ w.heap.size + 1 + 1 < x.w.heap.size := by have := x.h.size; simp at this; omega
  obtain ⟨z0, z1, z2⟩ := z0
  have fx := fun b o hb => x.h.frozen (p := ⟨b, o, none⟩) hb
  have cx2 := cx x
  clear cx hE
  go_wp2
  exact bodyPost_ret (v := .tuple #[V k (IntKind.u64.wrap (-z)) E0, .int .i64 0]) (by simp [results, Tryz.results28, go_sem, cx2]) rfl ⟨rfl, below_three x.h⟩
set_option maxHeartbeats 1000000 in
theorem fitted_nc (k z fault : Int) (w : World) (hk : 0 ≤ k ∧ k < 256) (h0 : 0 ≤ (IntKind.u64.wrap (-z))) (h1 : (IntKind.u64.wrap (-z)) < 18446744073709551616) (y : Int) (m : may3 k (IntKind.u64.wrap (-z)) E0 = true) (q : NB (num k (IntKind.u64.wrap (-z))) = .agg #[.bool false, .int .u64 y]) :
    Calls Tryz.prog 28 #[.int .u8 k, .agg #[.bool true, .int .u64 z], .int .i64 fault] w fun e w' => e = .returned (.tuple #[V 0 0 E0, .int .i64 fault]) ∧ Below w.heap.size w w' := by
  have hE := hE0
  go_enter Tryz.func28, Tryz.ntmps28
  go_wp2
  refine wp_region_sub2 (by kernel_rfl) (by kernel_rfl) ?_
  intro cx
  repeat (first | go_big_quiet_skip | (go_big_quiet_want; go_big_quiet_op; first | go_big_quiet_on | (refine ⟨_, fun _ => rfl, ?_⟩; go_big_quiet_on) | go_big_quiet_call (first | (go_at_call 7; exact calls_sub (May_is k (IntKind.u64.wrap (-z)) E0 _ true h0 h1 hk hE0 m)) | (go_at_call 30; exact calls_sub (numberOf_is k (IntKind.u64.wrap (-z)) E0 _ h0 h1 q)))))
  refine wpQuiet_nil ?_
  rintro _ ⟨x, rfl⟩
  have z0 : w.heap.size < x.w.heap.size ∧ w.heap.size + 1 < x.w.heap.size ∧ w.heap.size + 1 + 1 < x.w.heap.size := by have := x.h.size; simp at this; omega
  obtain ⟨z0, z1, z2⟩ := z0
  have fx := fun b o hb => x.h.frozen (p := ⟨b, o, none⟩) hb
  have cx2 := cx x
  clear cx hE
  go_wp2
  exact bodyPost_ret (v := .tuple #[V 0 0 E0, .int .i64 fault]) (by simp [results, Tryz.results28, go_sem, cx2]) rfl ⟨rfl, below_three x.h⟩
theorem NB_raw_pos {n : Int} (h : 0 ≤ n) : NB n = .agg #[.bool false, .int .u64 n] := by
  have e : (n.natAbs : Int) = n := by omega
  have c : ¬ n < 0 := by omega
  simp [NB, c, e]
theorem NB_raw_neg {n : Int} (h : n < 0) : NB n = .agg #[.bool true, .int .u64 n.natAbs] := by simp [NB, h]
theorem bits_neg (n : Int) (h : n < 0) (g : -18446744073709551616 < n) : IntKind.u64.wrap (-(n.natAbs : Int)) = n % 18446744073709551616 := by rw [IntKind.wrap_u64]; omega
theorem num_cases (k b : Int) (h0 : 0 ≤ b) (h1 : b < 18446744073709551616) : (num k b = b ∧ 0 ≤ num k b) ∨ (num k b = b - 18446744073709551616 ∧ num k b < 0) := by
  unfold num wrap64; split <;> omega
theorem fitted_of (k n fault : Int) (w : World) (hk : 0 ≤ k ∧ k < 256) (g : -18446744073709551616 < n ∧ n < 18446744073709551616) :
    Calls Tryz.prog 28 #[.int .u8 k, NB n, .int .i64 fault] w fun e w' => e = .returned (RV (fitOk k n) k (n % 18446744073709551616) fault) ∧ Below w.heap.size w w' := by
  by_cases c : n < 0
  · have hb := bits_neg n c g.1
    have b0 : 0 ≤ IntKind.u64.wrap (-(n.natAbs : Int)) := by rw [hb]; omega
    have b1 : IntKind.u64.wrap (-(n.natAbs : Int)) < 18446744073709551616 := by rw [hb]; omega
    rw [NB_raw_neg c]
    cases m : may3 k (n % 18446744073709551616) E0
    · have e : fitOk k n = false := by simp [fitOk, m]
      refine (fitted_na k n.natAbs fault w hk b0 b1 (by rw [hb]; exact m) trivial).mono ?_
      rintro e' w' ⟨rfl, h⟩
      exact ⟨RV_f e, h⟩
    · rcases num_cases k (n % 18446744073709551616) (by omega) (by omega) with ⟨d, d0⟩ | ⟨d, d0⟩
      · have e : fitOk k n = false := by simp [fitOk, m]; omega
        refine (fitted_nc k n.natAbs fault w hk b0 b1 _ (by rw [hb]; exact m) (by rw [hb]; exact NB_raw_pos d0)).mono ?_
        rintro e' w' ⟨rfl, h⟩
        exact ⟨RV_f e, h⟩
      · have d1 : num k (n % 18446744073709551616) = n := by omega
        have e : fitOk k n = true := by simp [fitOk, m, d1]
        refine (fitted_nb k n.natAbs fault w hk b0 b1 (by rw [hb]; exact m) (by rw [hb, d1]; exact NB_raw_neg c)).mono ?_
        rintro e' w' ⟨rfl, h⟩
        rw [hb]
        exact ⟨RV_t e, h⟩
  · have hb : n % 18446744073709551616 = n := by omega
    rw [NB_raw_pos (by omega), hb]
    cases m : may3 k n E0
    · have e : fitOk k n = false := by simp [fitOk, hb, m]
      refine (fitted_pa k n fault w hk (by omega) g.2 m trivial).mono ?_
      rintro e' w' ⟨rfl, h⟩
      exact ⟨RV_f e, h⟩
    · rcases num_cases k n (by omega) g.2 with ⟨d, d0⟩ | ⟨d, d0⟩
      · have e : fitOk k n = true := by simp [fitOk, hb, m, d]
        refine (fitted_pb k n fault w hk (by omega) g.2 m (by rw [d]; exact NB_raw_pos (by omega))).mono ?_
        rintro e' w' ⟨rfl, h⟩
        exact ⟨RV_t e, h⟩
      · have e : fitOk k n = false := by simp [fitOk, hb, m]; omega
        refine (fitted_pc k n fault w hk (by omega) g.2 _ m (NB_raw_neg d0)).mono ?_
        rintro e' w' ⟨rfl, h⟩
        exact ⟨RV_f e, h⟩
end Go.Proofs.YtlaamkfpdompjaaGreatDoor
