/- What the value package's Int answers; no statement of the seat is proved here. -/
import Derived.Test.YtpaibmganlaaeaaGreatDoorFz02
import Derived.Deep.RegionHeld3
namespace Go.Proofs.YtpaibmganlaaeaaGreatDoor
set_option linter.unusedVariables false
open Go.RowKit
/-- The kind of a kind's zero. -/
def zeroK (k : Int) : Int := if 1 ≤ k ∧ k ≤ 19 then k else 0
set_option maxHeartbeats 400000 in
theorem Zero_of (k : Int) (w : World) : Calls Tryz.prog 131 #[.int .u8 k] w fun e w' => e = .returned (V (zeroK k) 0 E0) ∧ Below w.heap.size w w' := by
  by_cases a : 1 ≤ k
  · by_cases b : k ≤ 19
    · have z : zeroK k = k := by simp [zeroK, a, b]
      rw [z]
      clear z
      go_enter Tryz.func131, Tryz.ntmps131
      go_wp2
      exact bodyPost_ret (v := V k 0 E0) (by simp [results, Tryz.results131, go_sem]) rfl ⟨rfl, (Below.refl _ _).alloc (Nat.le_refl _) _⟩
    · have z : zeroK k = 0 := by simp [zeroK, a, b]
      rw [z]
      clear z
      go_enter Tryz.func131, Tryz.ntmps131
      go_wp2
      exact bodyPost_ret (v := V 0 0 E0) (by simp [results, Tryz.results131, go_sem]) rfl ⟨rfl, (Below.refl _ _).alloc (Nat.le_refl _) _⟩
  · have z : zeroK k = 0 := by simp [zeroK, a]
    rw [z]
    clear z
    go_enter Tryz.func131, Tryz.ntmps131
    go_wp2
    exact bodyPost_ret (v := V 0 0 E0) (by simp [results, Tryz.results131, go_sem]) rfl ⟨rfl, (Below.refl _ _).alloc (Nat.le_refl _) _⟩
set_option maxHeartbeats 400000 in
theorem ZeroR_of (k : Int) (w : World) : Calls Tryz.prog 121 #[.int .u8 k] w fun e w' => e = .returned (V (zeroK k) 0 E0) ∧ Below w.heap.size w w' := by
  by_cases a : 1 ≤ k
  · by_cases b : k ≤ 19
    · have z : zeroK k = k := by simp [zeroK, a, b]
      rw [z]
      clear z
      go_enter Tryz.func121, Tryz.ntmps121
      go_wp2
      exact bodyPost_ret (v := V k 0 E0) (by simp [results, Tryz.results121, go_sem]) rfl ⟨rfl, (Below.refl _ _).alloc (Nat.le_refl _) _⟩
    · have z : zeroK k = 0 := by simp [zeroK, a, b]
      rw [z]
      clear z
      go_enter Tryz.func121, Tryz.ntmps121
      go_wp2
      exact bodyPost_ret (v := V 0 0 E0) (by simp [results, Tryz.results121, go_sem]) rfl ⟨rfl, (Below.refl _ _).alloc (Nat.le_refl _) _⟩
  · have z : zeroK k = 0 := by simp [zeroK, a]
    rw [z]
    clear z
    go_enter Tryz.func121, Tryz.ntmps121
    go_wp2
    exact bodyPost_ret (v := V 0 0 E0) (by simp [results, Tryz.results121, go_sem]) rfl ⟨rfl, (Below.refl _ _).alloc (Nat.le_refl _) _⟩
end Go.Proofs.YtpaibmganlaaeaaGreatDoor
namespace Go.Proofs.YtpaibmganlaaeaaGreatDoor
set_option linter.unusedVariables false
open Go.RowKit
/-- Are all kinds the first one? -/
def allS (n : Nat) (κ : Nat → Int) : Bool := decide (∀ i, i < n → κ i = κ 0)
/-- The kind that all are of, 0 if there is none. -/
def comK (n : Nat) (κ : Nat → Int) : Int := if allS n κ then zeroK (κ 0) else 0
theorem fieldV0 (k b : Int) (s : ByteArray) (w : World) : (Instr.field 27 (V k b s) 0).run Tryz.prog w = .ok (.int .u8 k) w := by kernel_rfl
set_option maxRecDepth 20000 in
set_option maxHeartbeats 1000000 in
theorem common_of (a : Addr) (n cap : Nat) (κ : Nat → Int) (w : World) (hk : KsAt w a n κ) (hn : n < 1000000) (h0 : 0 < n) :
    Calls Tryz.prog 88 #[.slice (some a) n cap] w fun e w' => e = .returned (.int .u8 (comK n κ)) ∧ Below w.heap.size w w' := by
  have HK : Hid (KsAt w a n κ) := hk
  have d0 : w.cell? a = some (.int .u8 (κ 0)) := by have := hk 0 h0; rwa [Addr.add_zero'] at this
  have p0 : (0 : Int) < n := by omega
  clear hk
  go_enter Tryz.func88, Tryz.ntmps88
  go_wp2
  go_loopw [7] (fun i wr => ∃ k : Nat, k ≤ n ∧ i = .int .i64 k ∧ wr = w ∧ ∀ j, j < k → κ j = κ 0) (fun i _ => n - (intOf i).toNat)
  case atStart => exact ⟨0, Nat.zero_le _, rfl, rfl, fun j hj => absurd hj (Nat.not_lt_zero _)⟩
  case round =>
    obtain ⟨k, hk, rfl, hw, hall⟩ := hrel
    subst hw
    have HA : Hid _ := hall
    clear hall
    by_cases hlt : k < n
    · have d := HK.out k hlt
      by_cases e : κ k = κ 0
      · have e1 : (κ k != κ 0) = false := by simpa using e
        have e2 : (κ k == κ 0) = true := by simpa using e
        have E : Hid (κ k = κ 0) := e
        clear e
        go_wp2
        exact ⟨⟨k + 1, by omega, by go_num, (by first | rfl | trivial), fun j hj => by rcases Nat.lt_succ_iff_lt_or_eq.1 hj with h | rfl; exact HA.out j h; exact E.out⟩, by simp [intOf]; omega⟩
      · have e1 : (κ k != κ 0) = true := by simpa using e
        have e2 : (κ k == κ 0) = false := by simpa using e
        have E : Hid (¬ κ k = κ 0) := e
        clear e
        go_wp2
        go_ret
        exact ⟨congrArg (fun x => Ending.returned (Value.int .u8 x)) (by unfold comK; rw [if_neg (by unfold allS; simp; exact ⟨k, hlt, E.out⟩)]), Below.refl _ _⟩
    · have ek : k = n := by omega
      have Z : Hid _ := Zero_of (κ 0)
      have fv := fieldV0 (zeroK (κ 0)) 0 E0
      go_wp2_with (first | (go_at_call 131; refine (Z.out _).mono ?_; rintro e w1 ⟨rfl, hb⟩; have HB : Hid _ := hb; clear hb))
      go_ret
      exact ⟨congrArg (fun x => Ending.returned (Value.int .u8 x)) (by unfold comK; rw [if_pos (by unfold allS; simp; exact fun i hi => HA.out i (by omega))]), HB.out⟩
theorem common_is (a : Addr) (n cap : Nat) (κ : Nat → Int) (w : World) (c : Int) (hk : KsAt w a n κ) (hn : n < 1000000) (h0 : 0 < n) (hc : comK n κ = c) :
    Calls Tryz.prog 88 #[.slice (some a) n cap] w fun e w' => e = .returned (.int .u8 c) ∧ Below w.heap.size w w' := by subst hc; exact common_of a n cap κ w hk hn h0
set_option maxHeartbeats 1000000 in
theorem alike_of (hw : Int) (a : Addr) (n cap : Nat) (κ : Nat → Int) (w : World) (hk : KsAt w a n κ) (hn : n < 1000000) (h0 : 0 < n) :
    Calls Tryz.prog 41 #[.int .i64 hw, .slice (some a) n cap] w fun e w' => e = .returned (.int .u8 (comK n κ)) ∧ Below w.heap.size w w' := by
  have C : Hid _ := common_of a n cap κ w hk hn h0
  clear hk
  generalize comK n κ = c at *
  go_enter Tryz.func41, Tryz.ntmps41
  go_wp2_with (first | (go_at_call 88; refine Calls.mono C.out ?_; rintro e w1 ⟨rfl, hb⟩; have HB : Hid (Below w.heap.size w w1) := hb; clear hb))
  go_ret
  exact ⟨rfl, HB.out⟩
set_option maxHeartbeats 1000000 in
theorem comparedS_of (hw : Int) (a : Addr) (n cap : Nat) (κ : Nat → Int) (w : World) (hk : KsAt w a n κ) (hn : n < 1000000) (h0 : 0 < n) :
    Calls Tryz.prog 39 #[.int .i64 hw, .slice (some a) n cap] w fun e w' => e = .returned (.int .u8 (gvK 1 (comK n κ != 0))) ∧ Below w.heap.size w w' := by
  have C : Hid _ := common_of a n cap κ w hk hn h0
  clear hk
  generalize comK n κ = c at *
  obtain ⟨q, hq⟩ : ∃ q, (c != 0) = q := ⟨_, rfl⟩
  rw [hq]
  go_enter Tryz.func39, Tryz.ntmps39
  go_wp2_with (first | (go_at_call 88; refine Calls.mono C.out ?_; rintro e w1 ⟨rfl, hb⟩; have HB : Hid (Below w.heap.size w w1) := hb; clear hb) | (go_at_call 90; refine (given_of 1 q _).mono ?_; rintro e w3 ⟨rfl, h3⟩; subst h3))
  go_ret
  exact ⟨rfl, HB.out⟩
set_option maxHeartbeats 1000000 in
theorem sized_of (hw : Int) (a : Addr) (n cap : Nat) (κ : Nat → Int) (w : World) (hk : KsAt w a n κ) (hn : n < 1000000) (h0 : 0 < n) :
    Calls Tryz.prog 43 #[.int .i64 hw, .slice (some a) n cap] w fun e w' => e = .returned (.int .u8 (gvK (κ 0) (intK (κ 0) || κ 0 == 18 || κ 0 == 14))) ∧ w' = w := by
  have d0 : w.cell? a = some (.int .u8 (κ 0)) := by have := hk 0 h0; rwa [Addr.add_zero'] at this
  have p0 : (0 : Int) < n := by omega
  clear hk
  have I : Hid (∀ w, Calls Tryz.prog 93 #[.int .u8 (κ 0)] w fun e w' => e = .returned (.bool (intK (κ 0))) ∧ w' = w) := isInteger_of (κ 0)
  generalize κ 0 = k at *
  generalize intK k = i at *
  rcases e1 : (k == 18) with _ | _ <;> rcases e2 : (k == 14) with _ | _ <;> cases i
  all_goals
    go_enter Tryz.func43, Tryz.ntmps43
    go_wp2_with (first | (go_at_call 93; refine (I.out _).mono ?_; rintro e w1 ⟨rfl, h1⟩; subst h1) | (go_at_call 90; refine (given_of _ _ _).mono ?_; rintro e w3 ⟨rfl, h3⟩; subst h3))
    go_ret
    exact ⟨rfl, rfl⟩
set_option maxHeartbeats 1000000 in
theorem cut_of (gv : Int) (hg : 0 ≤ gv ∧ gv < 256) (a : Addr) (n cap : Nat) (κ : Nat → Int) (w : World) (hk : KsAt w a n κ) (hn : n < 1000000) (h0 : 0 < n) :
    Calls Tryz.prog 67 #[.int .i64 gv, .slice (some a) n cap] w fun e w' => e = .returned (.int .u8 (gvK gv (κ 0 == 18))) ∧ w' = w := by
  have d0 : w.cell? a = some (.int .u8 (κ 0)) := by have := hk 0 h0; rwa [Addr.add_zero'] at this
  have p0 : (0 : Int) < n := by omega
  clear hk
  generalize κ 0 = k at *
  rcases e1 : (k == 18) with _ | _
  all_goals
    go_enter Tryz.func67, Tryz.ntmps67
    go_wp2_with (first | (go_at_call 90; refine (given_of _ _ _).mono ?_; rintro e w3 ⟨rfl, h3⟩; subst h3))
    go_ret
    exact ⟨by simp, rfl⟩
end Go.Proofs.YtpaibmganlaaeaaGreatDoor
namespace Go.Proofs.YtpaibmganlaaeaaGreatDoor
set_option linter.unusedVariables false
open Go.RowKit
/-- Is there a value of a kind that has that number? -/
def fitOk (k n : Int) : Bool := may3 k (n % 18446744073709551616) E0 && decide (num k (n % 18446744073709551616) = n)
theorem hE0 : E0.size ≤ maxLen := by decide
theorem May_is (k b : Int) (s : ByteArray) (w : World) (p : Bool) (h0 : 0 ≤ b) (h1 : b < 18446744073709551616) (hk : 0 ≤ k ∧ k < 256) (hs : s.size ≤ maxLen) (h : may3 k b s = p) :
    Calls Tryz.prog 15 #[V k b s] w fun e w' => e = .returned (.bool p) ∧ Below w.heap.size w w' := by
  rw [← h]; exact May_of k b s w h0 h1 hk hs
theorem numberOf_is (k b : Int) (s : ByteArray) (w : World) {p : Bool} {z : Int} (h0 : 0 ≤ b) (h1 : b < 18446744073709551616) (h : NB (num k b) = .agg #[.bool p, .int .u64 z]) :
    Calls Tryz.prog 129 #[V k b s] w fun e w' => e = .returned (.agg #[.bool p, .int .u64 z]) ∧ Below w.heap.size w w' := by
  rw [← h]; exact numberOf_of k b s w h0 h1
theorem below_three {w w1 : World} {x y z : Obj} (hb : Below (((w.alloc x).alloc y).alloc z).heap.size (((w.alloc x).alloc y).alloc z) w1) {u v t : Value} {i j l : Nat} :
    Below w.heap.size w (((w1.setCell ⟨w.heap.size + 1, i, none⟩ u).setCell ⟨w.heap.size + 1, j, none⟩ v).setCell ⟨w.heap.size + 1, l, none⟩ t) :=
  (((((((Below.refl _ _).alloc (Nat.le_refl _) _).alloc (by simp) _).alloc (by simp; omega) _).trans (hb.mono (by simp; omega))).setCell (by simp) _).setCell (by simp) _).setCell (by simp) _
set_option maxHeartbeats 1000000 in
theorem fitted_pa (k z fault : Int) (w : World) (hk : 0 ≤ k ∧ k < 256) (h0 : 0 ≤ z) (h1 : z < 18446744073709551616) (m : may3 k z E0 = false) (q : True) :
    Calls Tryz.prog 130 #[.int .u8 k, .agg #[.bool false, .int .u64 z], .int .i64 fault] w fun e w' => e = .returned (.tuple #[V 0 0 E0, .int .i64 fault]) ∧ Below w.heap.size w w' := by
  have hE := hE0
  go_enter Tryz.func130, Tryz.ntmps130
  go_wp2
  refine wp_region_sub2 (by kernel_rfl) (by kernel_rfl) ?_
  intro cx
  repeat (first | go_big_quiet_skip | (go_big_quiet_want; go_big_quiet_op; first | go_big_quiet_on | (refine ⟨_, fun _ => rfl, ?_⟩; go_big_quiet_on) | go_big_quiet_call (first | (go_at_call 15; exact calls_sub (May_is k z E0 _ false h0 h1 hk hE0 m)) | (go_at_call 129; exact calls_sub (numberOf_is k z E0 _ h0 h1 q)))))
  refine wpQuiet_nil ?_
  rintro _ ⟨x, rfl⟩
  have z0 : w.heap.size < x.w.heap.size ∧ w.heap.size + 1 < x.w.heap.size ∧ w.heap.size + 1 + 1 < x.w.heap.size := by have := x.h.size; simp at this; omega
  obtain ⟨z0, z1, z2⟩ := z0
  have fx := fun b o hb => x.h.frozen (p := ⟨b, o, none⟩) hb
  have cx2 := cx x
  clear cx hE
  go_wp2
  exact bodyPost_ret (v := .tuple #[V 0 0 E0, .int .i64 fault]) (by simp [results, Tryz.results130, go_sem, cx2]) rfl ⟨rfl, below_three x.h⟩
set_option maxHeartbeats 1000000 in
theorem fitted_pb (k z fault : Int) (w : World) (hk : 0 ≤ k ∧ k < 256) (h0 : 0 ≤ z) (h1 : z < 18446744073709551616) (m : may3 k z E0 = true) (q : NB (num k z) = .agg #[.bool false, .int .u64 z]) :
    Calls Tryz.prog 130 #[.int .u8 k, .agg #[.bool false, .int .u64 z], .int .i64 fault] w fun e w' => e = .returned (.tuple #[V k z E0, .int .i64 0]) ∧ Below w.heap.size w w' := by
  have hE := hE0
  go_enter Tryz.func130, Tryz.ntmps130
  go_wp2
  refine wp_region_sub2 (by kernel_rfl) (by kernel_rfl) ?_
  intro cx
  repeat (first | go_big_quiet_skip | (go_big_quiet_want; go_big_quiet_op; first | go_big_quiet_on | (refine ⟨_, fun _ => rfl, ?_⟩; go_big_quiet_on) | go_big_quiet_call (first | (go_at_call 15; exact calls_sub (May_is k z E0 _ true h0 h1 hk hE0 m)) | (go_at_call 129; exact calls_sub (numberOf_is k z E0 _ h0 h1 q)))))
  refine wpQuiet_nil ?_
  rintro _ ⟨x, rfl⟩
  have z0 : w.heap.size < x.w.heap.size ∧ w.heap.size + 1 < x.w.heap.size ∧ w.heap.size + 1 + 1 < x.w.heap.size := by have := x.h.size; simp at this; omega
  obtain ⟨z0, z1, z2⟩ := z0
  have fx := fun b o hb => x.h.frozen (p := ⟨b, o, none⟩) hb
  have cx2 := cx x
  clear cx hE
  go_wp2
  exact bodyPost_ret (v := .tuple #[V k z E0, .int .i64 0]) (by simp [results, Tryz.results130, go_sem, cx2]) rfl ⟨rfl, below_three x.h⟩
set_option maxHeartbeats 1000000 in
theorem fitted_pc (k z fault : Int) (w : World) (hk : 0 ≤ k ∧ k < 256) (h0 : 0 ≤ z) (h1 : z < 18446744073709551616) (y : Int) (m : may3 k z E0 = true) (q : NB (num k z) = .agg #[.bool true, .int .u64 y]) :
    Calls Tryz.prog 130 #[.int .u8 k, .agg #[.bool false, .int .u64 z], .int .i64 fault] w fun e w' => e = .returned (.tuple #[V 0 0 E0, .int .i64 fault]) ∧ Below w.heap.size w w' := by
  have hE := hE0
  go_enter Tryz.func130, Tryz.ntmps130
  go_wp2
  refine wp_region_sub2 (by kernel_rfl) (by kernel_rfl) ?_
  intro cx
  repeat (first | go_big_quiet_skip | (go_big_quiet_want; go_big_quiet_op; first | go_big_quiet_on | (refine ⟨_, fun _ => rfl, ?_⟩; go_big_quiet_on) | go_big_quiet_call (first | (go_at_call 15; exact calls_sub (May_is k z E0 _ true h0 h1 hk hE0 m)) | (go_at_call 129; exact calls_sub (numberOf_is k z E0 _ h0 h1 q)))))
  refine wpQuiet_nil ?_
  rintro _ ⟨x, rfl⟩
  have z0 : w.heap.size < x.w.heap.size ∧ w.heap.size + 1 < x.w.heap.size ∧ w.heap.size + 1 + 1 < x.w.heap.size := by have := x.h.size; simp at this; omega
  obtain ⟨z0, z1, z2⟩ := z0
  have fx := fun b o hb => x.h.frozen (p := ⟨b, o, none⟩) hb
  have cx2 := cx x
  clear cx hE
  go_wp2
  exact bodyPost_ret (v := .tuple #[V 0 0 E0, .int .i64 fault]) (by simp [results, Tryz.results130, go_sem, cx2]) rfl ⟨rfl, below_three x.h⟩
set_option maxHeartbeats 1000000 in
theorem fitted_na (k z fault : Int) (w : World) (hk : 0 ≤ k ∧ k < 256) (h0 : 0 ≤ (IntKind.u64.wrap (-z))) (h1 : (IntKind.u64.wrap (-z)) < 18446744073709551616) (m : may3 k (IntKind.u64.wrap (-z)) E0 = false) (q : True) :
    Calls Tryz.prog 130 #[.int .u8 k, .agg #[.bool true, .int .u64 z], .int .i64 fault] w fun e w' => e = .returned (.tuple #[V 0 0 E0, .int .i64 fault]) ∧ Below w.heap.size w w' := by
  have hE := hE0
  go_enter Tryz.func130, Tryz.ntmps130
  go_wp2
  refine wp_region_sub2 (by kernel_rfl) (by kernel_rfl) ?_
  intro cx
  repeat (first | go_big_quiet_skip | (go_big_quiet_want; go_big_quiet_op; first | go_big_quiet_on | (refine ⟨_, fun _ => rfl, ?_⟩; go_big_quiet_on) | go_big_quiet_call (first | (go_at_call 15; exact calls_sub (May_is k (IntKind.u64.wrap (-z)) E0 _ false h0 h1 hk hE0 m)) | (go_at_call 129; exact calls_sub (numberOf_is k (IntKind.u64.wrap (-z)) E0 _ h0 h1 q)))))
  refine wpQuiet_nil ?_
  rintro _ ⟨x, rfl⟩
  have z0 : w.heap.size < x.w.heap.size ∧ w.heap.size + 1 < x.w.heap.size ∧ w.heap.size + 1 + 1 < x.w.heap.size := by have := x.h.size; simp at this; omega
  obtain ⟨z0, z1, z2⟩ := z0
  have fx := fun b o hb => x.h.frozen (p := ⟨b, o, none⟩) hb
  have cx2 := cx x
  clear cx hE
  go_wp2
  exact bodyPost_ret (v := .tuple #[V 0 0 E0, .int .i64 fault]) (by simp [results, Tryz.results130, go_sem, cx2]) rfl ⟨rfl, below_three x.h⟩
set_option maxHeartbeats 1000000 in
theorem fitted_nb (k z fault : Int) (w : World) (hk : 0 ≤ k ∧ k < 256) (h0 : 0 ≤ (IntKind.u64.wrap (-z))) (h1 : (IntKind.u64.wrap (-z)) < 18446744073709551616) (m : may3 k (IntKind.u64.wrap (-z)) E0 = true) (q : NB (num k (IntKind.u64.wrap (-z))) = .agg #[.bool true, .int .u64 z]) :
    Calls Tryz.prog 130 #[.int .u8 k, .agg #[.bool true, .int .u64 z], .int .i64 fault] w fun e w' => e = .returned (.tuple #[V k (IntKind.u64.wrap (-z)) E0, .int .i64 0]) ∧ Below w.heap.size w w' := by
  have hE := hE0
  go_enter Tryz.func130, Tryz.ntmps130
  go_wp2
  refine wp_region_sub2 (by kernel_rfl) (by kernel_rfl) ?_
  intro cx
  repeat (first | go_big_quiet_skip | (go_big_quiet_want; go_big_quiet_op; first | go_big_quiet_on | (refine ⟨_, fun _ => rfl, ?_⟩; go_big_quiet_on) | go_big_quiet_call (first | (go_at_call 15; exact calls_sub (May_is k (IntKind.u64.wrap (-z)) E0 _ true h0 h1 hk hE0 m)) | (go_at_call 129; exact calls_sub (numberOf_is k (IntKind.u64.wrap (-z)) E0 _ h0 h1 q)))))
  refine wpQuiet_nil ?_
  rintro _ ⟨x, rfl⟩
  have z0 : w.heap.size < x.w.heap.size ∧ w.heap.size + 1 < x.w.heap.size ∧ w.heap.size + 1 + 1 < x.w.heap.size := by have := x.h.size; simp at this; omega
  obtain ⟨z0, z1, z2⟩ := z0
  have fx := fun b o hb => x.h.frozen (p := ⟨b, o, none⟩) hb
  have cx2 := cx x
  clear cx hE
  go_wp2
  exact bodyPost_ret (v := .tuple #[V k (IntKind.u64.wrap (-z)) E0, .int .i64 0]) (by simp [results, Tryz.results130, go_sem, cx2]) rfl ⟨rfl, below_three x.h⟩
set_option maxHeartbeats 1000000 in
theorem fitted_nc (k z fault : Int) (w : World) (hk : 0 ≤ k ∧ k < 256) (h0 : 0 ≤ (IntKind.u64.wrap (-z))) (h1 : (IntKind.u64.wrap (-z)) < 18446744073709551616) (y : Int) (m : may3 k (IntKind.u64.wrap (-z)) E0 = true) (q : NB (num k (IntKind.u64.wrap (-z))) = .agg #[.bool false, .int .u64 y]) :
    Calls Tryz.prog 130 #[.int .u8 k, .agg #[.bool true, .int .u64 z], .int .i64 fault] w fun e w' => e = .returned (.tuple #[V 0 0 E0, .int .i64 fault]) ∧ Below w.heap.size w w' := by
  have hE := hE0
  go_enter Tryz.func130, Tryz.ntmps130
  go_wp2
  refine wp_region_sub2 (by kernel_rfl) (by kernel_rfl) ?_
  intro cx
  repeat (first | go_big_quiet_skip | (go_big_quiet_want; go_big_quiet_op; first | go_big_quiet_on | (refine ⟨_, fun _ => rfl, ?_⟩; go_big_quiet_on) | go_big_quiet_call (first | (go_at_call 15; exact calls_sub (May_is k (IntKind.u64.wrap (-z)) E0 _ true h0 h1 hk hE0 m)) | (go_at_call 129; exact calls_sub (numberOf_is k (IntKind.u64.wrap (-z)) E0 _ h0 h1 q)))))
  refine wpQuiet_nil ?_
  rintro _ ⟨x, rfl⟩
  have z0 : w.heap.size < x.w.heap.size ∧ w.heap.size + 1 < x.w.heap.size ∧ w.heap.size + 1 + 1 < x.w.heap.size := by have := x.h.size; simp at this; omega
  obtain ⟨z0, z1, z2⟩ := z0
  have fx := fun b o hb => x.h.frozen (p := ⟨b, o, none⟩) hb
  have cx2 := cx x
  clear cx hE
  go_wp2
  exact bodyPost_ret (v := .tuple #[V 0 0 E0, .int .i64 fault]) (by simp [results, Tryz.results130, go_sem, cx2]) rfl ⟨rfl, below_three x.h⟩
theorem NB_raw_pos {n : Int} (h : 0 ≤ n) : NB n = .agg #[.bool false, .int .u64 n] := by
  have e : (n.natAbs : Int) = n := by omega
  have c : ¬ n < 0 := by omega
  simp [NB, c, e]
theorem NB_raw_neg {n : Int} (h : n < 0) : NB n = .agg #[.bool true, .int .u64 n.natAbs] := by simp [NB, h]
theorem bits_neg (n : Int) (h : n < 0) (g : -18446744073709551616 < n) : IntKind.u64.wrap (-(n.natAbs : Int)) = n % 18446744073709551616 := by rw [IntKind.wrap_u64]; omega
theorem num_cases (k b : Int) (h0 : 0 ≤ b) (h1 : b < 18446744073709551616) : (num k b = b ∧ 0 ≤ num k b) ∨ (num k b = b - 18446744073709551616 ∧ num k b < 0) := by
  unfold num wrap64; split <;> omega
theorem fitted_of (k n fault : Int) (w : World) (hk : 0 ≤ k ∧ k < 256) (g : -18446744073709551616 < n ∧ n < 18446744073709551616) :
    Calls Tryz.prog 130 #[.int .u8 k, NB n, .int .i64 fault] w fun e w' => e = .returned (RV (fitOk k n) k (n % 18446744073709551616) fault) ∧ Below w.heap.size w w' := by
  by_cases c : n < 0
  · have hb := bits_neg n c g.1
    have b0 : 0 ≤ IntKind.u64.wrap (-(n.natAbs : Int)) := by rw [hb]; omega
    have b1 : IntKind.u64.wrap (-(n.natAbs : Int)) < 18446744073709551616 := by rw [hb]; omega
    rw [NB_raw_neg c]
    cases m : may3 k (n % 18446744073709551616) E0
    · have e : fitOk k n = false := by simp [fitOk, m]
      refine (fitted_na k n.natAbs fault w hk b0 b1 (by rw [hb]; exact m) trivial).mono ?_
      rintro e' w' ⟨rfl, h⟩
      exact ⟨RV_f e, h⟩
    · rcases num_cases k (n % 18446744073709551616) (by omega) (by omega) with ⟨d, d0⟩ | ⟨d, d0⟩
      · have e : fitOk k n = false := by simp [fitOk, m]; omega
        refine (fitted_nc k n.natAbs fault w hk b0 b1 _ (by rw [hb]; exact m) (by rw [hb]; exact NB_raw_pos d0)).mono ?_
        rintro e' w' ⟨rfl, h⟩
        exact ⟨RV_f e, h⟩
      · have d1 : num k (n % 18446744073709551616) = n := by omega
        have e : fitOk k n = true := by simp [fitOk, m, d1]
        refine (fitted_nb k n.natAbs fault w hk b0 b1 (by rw [hb]; exact m) (by rw [hb, d1]; exact NB_raw_neg c)).mono ?_
        rintro e' w' ⟨rfl, h⟩
        rw [hb]
        exact ⟨RV_t e, h⟩
  · have hb : n % 18446744073709551616 = n := by omega
    rw [NB_raw_pos (by omega), hb]
    cases m : may3 k n E0
    · have e : fitOk k n = false := by simp [fitOk, hb, m]
      refine (fitted_pa k n fault w hk (by omega) g.2 m trivial).mono ?_
      rintro e' w' ⟨rfl, h⟩
      exact ⟨RV_f e, h⟩
    · rcases num_cases k n (by omega) g.2 with ⟨d, d0⟩ | ⟨d, d0⟩
      · have e : fitOk k n = true := by simp [fitOk, hb, m, d]
        refine (fitted_pb k n fault w hk (by omega) g.2 m (by rw [d]; exact NB_raw_pos (by omega))).mono ?_
        rintro e' w' ⟨rfl, h⟩
        exact ⟨RV_t e, h⟩
      · have e : fitOk k n = false := by simp [fitOk, hb, m]; omega
        refine (fitted_pc k n fault w hk (by omega) g.2 _ m (NB_raw_neg d0)).mono ?_
        rintro e' w' ⟨rfl, h⟩
        exact ⟨RV_f e, h⟩
end Go.Proofs.YtpaibmganlaaeaaGreatDoor
namespace Go.Proofs.YtpaibmganlaaeaaGreatDoor
set_option linter.unusedVariables false
open Go.RowKit
/-- What a call that only makes memory leaves of two old blocks. -/
theorem step2 {W w2 : World} {h : Nat} (hb : Below W.heap.size W w2) (z0 : h < W.heap.size) (z1 : h + 1 < W.heap.size) :
    h < w2.heap.size ∧ h + 1 < w2.heap.size ∧ (∀ o, w2.cell? ⟨h, o, none⟩ = W.cell? ⟨h, o, none⟩) ∧ (∀ o, w2.cell? ⟨h + 1, o, none⟩ = W.cell? ⟨h + 1, o, none⟩) ∧ (∀ o, w2.frozen? ⟨h + 1, o, none⟩ = W.frozen? ⟨h + 1, o, none⟩) :=
  ⟨Nat.lt_of_lt_of_le z0 hb.size, Nat.lt_of_lt_of_le z1 hb.size, fun o => hb.cell (p := ⟨h, o, none⟩) z0, fun o => hb.cell (p := ⟨h + 1, o, none⟩) z1, fun o => hb.frozen (p := ⟨h + 1, o, none⟩) z1⟩
theorem step_drewT {w1 : World} {h : Nat} (z : h < w1.heap.size) : h < w1.drew.heap.size := z
/-- The two boxes with which such a function begins, behind its first call. -/
theorem step_box {w w1 : World} {k b : Int} {s : ByteArray} {t u : TypeId} (hb : Below ((w.alloc (.cells #[.int .u8 k, .int .u64 b, .string s] t)).alloc (.cells #[.int .u8 0, .int .u64 0, .string ⟨#[]⟩] u)).heap.size ((w.alloc (.cells #[.int .u8 k, .int .u64 b, .string s] t)).alloc (.cells #[.int .u8 0, .int .u64 0, .string ⟨#[]⟩] u)) w1) :
    w.heap.size < w1.heap.size ∧ w.heap.size + 1 < w1.heap.size ∧ w1.cell? ⟨w.heap.size, 0, none⟩ = some (.int .u8 k) ∧ w1.cell? ⟨w.heap.size, 1, none⟩ = some (.int .u64 b) ∧ w1.cell? ⟨w.heap.size, 2, none⟩ = some (.string s) ∧
    w1.cell? ⟨w.heap.size + 1, 0, none⟩ = some (.int .u8 0) ∧ w1.cell? ⟨w.heap.size + 1, 1, none⟩ = some (.int .u64 0) ∧ w1.cell? ⟨w.heap.size + 1, 2, none⟩ = some (.string ⟨#[]⟩) ∧
    (∀ o, w1.frozen? ⟨w.heap.size + 1, o, none⟩ = false) ∧ Below w.heap.size w w1 := by
  have hs := hb.size
  simp only [World.size_alloc] at hs
  refine ⟨by omega, by omega, ?_, ?_, ?_, ?_, ?_, ?_, ?_, (((Below.refl _ _).alloc (Nat.le_refl _) _).alloc (by simp) _).trans (hb.mono (by simp; omega))⟩
  · rw [hb.cell (p := ⟨w.heap.size, 0, none⟩) (by simp; omega)]; simp
  · rw [hb.cell (p := ⟨w.heap.size, 1, none⟩) (by simp; omega)]; simp
  · rw [hb.cell (p := ⟨w.heap.size, 2, none⟩) (by simp; omega)]; simp
  · rw [hb.cell (p := ⟨w.heap.size + 1, 0, none⟩) (by simp)]; simp
  · rw [hb.cell (p := ⟨w.heap.size + 1, 1, none⟩) (by simp)]; simp
  · rw [hb.cell (p := ⟨w.heap.size + 1, 2, none⟩) (by simp)]; simp
  · intro o
    rw [hb.frozen (p := ⟨w.heap.size + 1, o, none⟩) (by simp)]; simp
theorem fitted_yes (k n fault : Int) (w : World) (hk : 0 ≤ k ∧ k < 256) (g : -18446744073709551616 < n ∧ n < 18446744073709551616) (h : fitOk k n = true) :
    Calls Tryz.prog 130 #[.int .u8 k, NB n, .int .i64 fault] w fun e w' => e = .returned (.tuple #[V k (n % 18446744073709551616) E0, .int .i64 0]) ∧ Below w.heap.size w w' := by
  have := fitted_of k n fault w hk g
  rwa [← RV_t h] at this
theorem fitted_no (k n fault : Int) (w : World) (hk : 0 ≤ k ∧ k < 256) (g : -18446744073709551616 < n ∧ n < 18446744073709551616) (h : fitOk k n = false) :
    Calls Tryz.prog 130 #[.int .u8 k, NB n, .int .i64 fault] w fun e w' => e = .returned (.tuple #[V 0 0 E0, .int .i64 fault]) ∧ Below w.heap.size w w' := by
  have := fitted_of k n fault w hk g
  rwa [← RV_f h] at this
set_option maxHeartbeats 1000000 in
theorem Turn_neg_yes_s (k b : Int) (s : ByteArray) (w : World) (h0 : 0 ≤ b) (h1 : b < 18446744073709551616) (hk : 0 ≤ (k : Int) ∧ (k : Int) < 256) (hs : s.size ≤ maxLen) (c : may3 k b s = true) (d1 : 2 ≤ k) (d2 : k ≤ 5) (f : fitOk k (-num k b) = true) :
    Calls Tryz.prog 89 #[.int .i64 15, V k b s] w fun e w' => e = .returned (.tuple #[V k ((-num k b) % 18446744073709551616) E0, .int .i64 0]) ∧ Below w.heap.size w w' := by
  have g : Hid (-18446744073709551616 < -num k b ∧ -num k b < 18446744073709551616) := by have := num_bd k b h0 h1; show _ ∧ _; omega
  have F : Hid (fitOk k (-num k b) = true) := f
  clear f
  go_enter Tryz.func89, Tryz.ntmps89
  go_wp2_with (first | (go_at_call 15; refine (May_of _ _ _ _ h0 h1 hk hs).mono ?_; rintro e w1 ⟨rfl, hb⟩; obtain ⟨z0, z1, q0, q1, q2, q3, q4, q5, q6, HB⟩ := step_box hb; clear hb) | go_in)
  have HB : Hid (Below w.heap.size w w1) := HB
  go_region_held3 (fun w' => w'.cell? ⟨w.heap.size, 0, none⟩ = some (.int .u8 k) ∧ w'.cell? ⟨w.heap.size, 1, none⟩ = some (.int .u64 b) ∧ w'.cell? ⟨w.heap.size, 2, none⟩ = some (.string s)) (go_keep)
    (first | (go_at_call 129; refine (numberOf_of _ _ _ _ h0 h1).mono ?_; rintro e w2 ⟨rfl, hb2⟩; obtain ⟨y0, y1, n0, n1, n2⟩ := step2 hb2 (step_drewT z0) (step_drewT z1)) | (go_at_call 132; refine (opposite_of _ _).mono ?_; rintro e w3 ⟨rfl, hb3⟩; obtain ⟨x0, x1, m0, m1, m2⟩ := step2 hb3 y0 y1) | (go_at_call 130; refine (fitted_yes _ _ _ _ hk g.out F.out).mono ?_; rintro e w4 ⟨rfl, hb4⟩; obtain ⟨u0, u1, l0, l1, l2⟩ := step2 hb4 x0 x1))
  have B := (((HB.out.drew).trans (hb2.mono (Nat.le_of_lt z0))).trans (hb3.mono (Nat.le_of_lt y0))).trans (hb4.mono (Nat.le_of_lt x0))
  go_wp2
  exact bodyPost_ret (v := .tuple #[V k ((-num k b) % 18446744073709551616) E0, .int .i64 0]) (by simp [results, Tryz.results89, go_sem, l1, m1, n1, q3, q4, q5]) rfl ⟨rfl, ((B.setCell (by simp) _).setCell (by simp) _).setCell (by simp) _⟩
set_option maxHeartbeats 1000000 in
theorem Turn_neg_yes_t (b : Int) (s : ByteArray) (w : World) (h0 : 0 ≤ b) (h1 : b < 18446744073709551616) (hk : 0 ≤ (14 : Int) ∧ (14 : Int) < 256) (hs : s.size ≤ maxLen) (c : may3 14 b s = true) (f : fitOk 14 (-num 14 b) = true) :
    Calls Tryz.prog 89 #[.int .i64 15, V 14 b s] w fun e w' => e = .returned (.tuple #[V 14 ((-num 14 b) % 18446744073709551616) E0, .int .i64 0]) ∧ Below w.heap.size w w' := by
  have g : Hid (-18446744073709551616 < -num 14 b ∧ -num 14 b < 18446744073709551616) := by have := num_bd 14 b h0 h1; show _ ∧ _; omega
  have F : Hid (fitOk 14 (-num 14 b) = true) := f
  clear f
  go_enter Tryz.func89, Tryz.ntmps89
  go_wp2_with (first | (go_at_call 15; refine (May_of _ _ _ _ h0 h1 hk hs).mono ?_; rintro e w1 ⟨rfl, hb⟩; obtain ⟨z0, z1, q0, q1, q2, q3, q4, q5, q6, HB⟩ := step_box hb; clear hb) | go_in)
  have HB : Hid (Below w.heap.size w w1) := HB
  go_region_held3 (fun w' => w'.cell? ⟨w.heap.size, 0, none⟩ = some (.int .u8 14) ∧ w'.cell? ⟨w.heap.size, 1, none⟩ = some (.int .u64 b) ∧ w'.cell? ⟨w.heap.size, 2, none⟩ = some (.string s)) (go_keep)
    (first | (go_at_call 129; refine (numberOf_of _ _ _ _ h0 h1).mono ?_; rintro e w2 ⟨rfl, hb2⟩; obtain ⟨y0, y1, n0, n1, n2⟩ := step2 hb2 (step_drewT z0) (step_drewT z1)) | (go_at_call 132; refine (opposite_of _ _).mono ?_; rintro e w3 ⟨rfl, hb3⟩; obtain ⟨x0, x1, m0, m1, m2⟩ := step2 hb3 y0 y1) | (go_at_call 130; refine (fitted_yes _ _ _ _ hk g.out F.out).mono ?_; rintro e w4 ⟨rfl, hb4⟩; obtain ⟨u0, u1, l0, l1, l2⟩ := step2 hb4 x0 x1))
  have B := (((HB.out.drew).trans (hb2.mono (Nat.le_of_lt z0))).trans (hb3.mono (Nat.le_of_lt y0))).trans (hb4.mono (Nat.le_of_lt x0))
  go_wp2
  exact bodyPost_ret (v := .tuple #[V 14 ((-num 14 b) % 18446744073709551616) E0, .int .i64 0]) (by simp [results, Tryz.results89, go_sem, l1, m1, n1, q3, q4, q5]) rfl ⟨rfl, ((B.setCell (by simp) _).setCell (by simp) _).setCell (by simp) _⟩
set_option maxHeartbeats 1000000 in
theorem Turn_neg_no_s (k b : Int) (s : ByteArray) (w : World) (h0 : 0 ≤ b) (h1 : b < 18446744073709551616) (hk : 0 ≤ (k : Int) ∧ (k : Int) < 256) (hs : s.size ≤ maxLen) (c : may3 k b s = true) (d1 : 2 ≤ k) (d2 : k ≤ 5) (f : fitOk k (-num k b) = false) :
    Calls Tryz.prog 89 #[.int .i64 15, V k b s] w fun e w' => e = .returned (.tuple #[V 0 0 E0, .int .i64 1]) ∧ Below w.heap.size w w' := by
  have g : Hid (-18446744073709551616 < -num k b ∧ -num k b < 18446744073709551616) := by have := num_bd k b h0 h1; show _ ∧ _; omega
  have F : Hid (fitOk k (-num k b) = false) := f
  clear f
  go_enter Tryz.func89, Tryz.ntmps89
  go_wp2_with (first | (go_at_call 15; refine (May_of _ _ _ _ h0 h1 hk hs).mono ?_; rintro e w1 ⟨rfl, hb⟩; obtain ⟨z0, z1, q0, q1, q2, q3, q4, q5, q6, HB⟩ := step_box hb; clear hb) | go_in)
  have HB : Hid (Below w.heap.size w w1) := HB
  go_region_held3 (fun w' => w'.cell? ⟨w.heap.size, 0, none⟩ = some (.int .u8 k) ∧ w'.cell? ⟨w.heap.size, 1, none⟩ = some (.int .u64 b) ∧ w'.cell? ⟨w.heap.size, 2, none⟩ = some (.string s)) (go_keep)
    (first | (go_at_call 129; refine (numberOf_of _ _ _ _ h0 h1).mono ?_; rintro e w2 ⟨rfl, hb2⟩; obtain ⟨y0, y1, n0, n1, n2⟩ := step2 hb2 (step_drewT z0) (step_drewT z1)) | (go_at_call 132; refine (opposite_of _ _).mono ?_; rintro e w3 ⟨rfl, hb3⟩; obtain ⟨x0, x1, m0, m1, m2⟩ := step2 hb3 y0 y1) | (go_at_call 130; refine (fitted_no _ _ _ _ hk g.out F.out).mono ?_; rintro e w4 ⟨rfl, hb4⟩; obtain ⟨u0, u1, l0, l1, l2⟩ := step2 hb4 x0 x1))
  have B := (((HB.out.drew).trans (hb2.mono (Nat.le_of_lt z0))).trans (hb3.mono (Nat.le_of_lt y0))).trans (hb4.mono (Nat.le_of_lt x0))
  go_wp2
  exact bodyPost_ret (v := .tuple #[V 0 0 E0, .int .i64 1]) (by simp [results, Tryz.results89, go_sem, l1, m1, n1, q3, q4, q5]) rfl ⟨rfl, ((B.setCell (by simp) _).setCell (by simp) _).setCell (by simp) _⟩
set_option maxHeartbeats 1000000 in
theorem Turn_neg_no_t (b : Int) (s : ByteArray) (w : World) (h0 : 0 ≤ b) (h1 : b < 18446744073709551616) (hk : 0 ≤ (14 : Int) ∧ (14 : Int) < 256) (hs : s.size ≤ maxLen) (c : may3 14 b s = true) (f : fitOk 14 (-num 14 b) = false) :
    Calls Tryz.prog 89 #[.int .i64 15, V 14 b s] w fun e w' => e = .returned (.tuple #[V 0 0 E0, .int .i64 1]) ∧ Below w.heap.size w w' := by
  have g : Hid (-18446744073709551616 < -num 14 b ∧ -num 14 b < 18446744073709551616) := by have := num_bd 14 b h0 h1; show _ ∧ _; omega
  have F : Hid (fitOk 14 (-num 14 b) = false) := f
  clear f
  go_enter Tryz.func89, Tryz.ntmps89
  go_wp2_with (first | (go_at_call 15; refine (May_of _ _ _ _ h0 h1 hk hs).mono ?_; rintro e w1 ⟨rfl, hb⟩; obtain ⟨z0, z1, q0, q1, q2, q3, q4, q5, q6, HB⟩ := step_box hb; clear hb) | go_in)
  have HB : Hid (Below w.heap.size w w1) := HB
  go_region_held3 (fun w' => w'.cell? ⟨w.heap.size, 0, none⟩ = some (.int .u8 14) ∧ w'.cell? ⟨w.heap.size, 1, none⟩ = some (.int .u64 b) ∧ w'.cell? ⟨w.heap.size, 2, none⟩ = some (.string s)) (go_keep)
    (first | (go_at_call 129; refine (numberOf_of _ _ _ _ h0 h1).mono ?_; rintro e w2 ⟨rfl, hb2⟩; obtain ⟨y0, y1, n0, n1, n2⟩ := step2 hb2 (step_drewT z0) (step_drewT z1)) | (go_at_call 132; refine (opposite_of _ _).mono ?_; rintro e w3 ⟨rfl, hb3⟩; obtain ⟨x0, x1, m0, m1, m2⟩ := step2 hb3 y0 y1) | (go_at_call 130; refine (fitted_no _ _ _ _ hk g.out F.out).mono ?_; rintro e w4 ⟨rfl, hb4⟩; obtain ⟨u0, u1, l0, l1, l2⟩ := step2 hb4 x0 x1))
  have B := (((HB.out.drew).trans (hb2.mono (Nat.le_of_lt z0))).trans (hb3.mono (Nat.le_of_lt y0))).trans (hb4.mono (Nat.le_of_lt x0))
  go_wp2
  exact bodyPost_ret (v := .tuple #[V 0 0 E0, .int .i64 1]) (by simp [results, Tryz.results89, go_sem, l1, m1, n1, q3, q4, q5]) rfl ⟨rfl, ((B.setCell (by simp) _).setCell (by simp) _).setCell (by simp) _⟩
end Go.Proofs.YtpaibmganlaaeaaGreatDoor
namespace Go.Proofs.YtpaibmganlaaeaaGreatDoor
set_option linter.unusedVariables false
open Go.RowKit
set_option maxHeartbeats 1000000 in
theorem hasNumbers_is (k : Int) (w : World) (p : Bool) (hk : 0 ≤ k ∧ k < 256) (h : p = decide (1 ≤ k ∧ k ≤ 17)) : Calls Tryz.prog 137 #[.int .u8 k] w fun e w' => e = .returned (.bool p) ∧ w' = w := by
  subst h
  rcases kinds k hk with rfl | rfl | rfl | rfl | rfl | rfl | rfl | rfl | rfl | rfl | rfl | rfl | rfl | rfl | rfl | rfl | rfl | rfl | rfl | rfl | hk2
  all_goals
    go_enter Tryz.func137, Tryz.ntmps137
    go_wp2
    go_ret
    exact ⟨ret_bool (by first | rfl | (symm; simp; omega)), rfl⟩
/-- The box of a result, behind a call. -/
theorem step_zero {w w1 : World} {u : TypeId} (hb : Below (w.alloc (.cells #[.int .u8 0, .int .u64 0, .string ⟨#[]⟩] u)).heap.size (w.alloc (.cells #[.int .u8 0, .int .u64 0, .string ⟨#[]⟩] u)) w1) :
    w.heap.size < w1.heap.size ∧ w1.cell? ⟨w.heap.size, 0, none⟩ = some (.int .u8 0) ∧ w1.cell? ⟨w.heap.size, 1, none⟩ = some (.int .u64 0) ∧ w1.cell? ⟨w.heap.size, 2, none⟩ = some (.string ⟨#[]⟩) ∧
    (∀ o, w1.frozen? ⟨w.heap.size, o, none⟩ = false) ∧ Below w.heap.size w w1 := by
  have hs := hb.size
  simp only [World.size_alloc] at hs
  refine ⟨by omega, ?_, ?_, ?_, ?_, ((Below.refl _ _).alloc (Nat.le_refl _) _).trans (hb.mono (by simp))⟩
  · rw [hb.cell (p := ⟨w.heap.size, 0, none⟩) (by simp)]; simp
  · rw [hb.cell (p := ⟨w.heap.size, 1, none⟩) (by simp)]; simp
  · rw [hb.cell (p := ⟨w.heap.size, 2, none⟩) (by simp)]; simp
  · intro o
    rw [hb.frozen (p := ⟨w.heap.size, o, none⟩) (by simp)]; simp
theorem step1 {W w2 : World} {h : Nat} (hb : Below W.heap.size W w2) (z0 : h < W.heap.size) :
    h < w2.heap.size ∧ (∀ o, w2.cell? ⟨h, o, none⟩ = W.cell? ⟨h, o, none⟩) ∧ (∀ o, w2.frozen? ⟨h, o, none⟩ = W.frozen? ⟨h, o, none⟩) :=
  ⟨Nat.lt_of_lt_of_le z0 hb.size, fun o => hb.cell (p := ⟨h, o, none⟩) z0, fun o => hb.frozen (p := ⟨h, o, none⟩) z0⟩
/-- The value of a kind whose number is n, or the fault. -/
def intR (k n : Int) : Value :=
  if 1 ≤ k ∧ k ≤ 17 then (if fitOk k n then .tuple #[V k (n % 18446744073709551616) E0, .int .i64 0] else .tuple #[V 0 0 E0, .int .i64 1]) else .tuple #[V 0 0 E0, .int .i64 8]
section
variable (k n : Int) (w : World)
set_option maxHeartbeats 1000000 in
theorem Int_x (hk : 0 ≤ k ∧ k < 256) (c : ¬ (1 ≤ k ∧ k ≤ 17)) : Calls Tryz.prog 108 #[.int .u8 k, .int .i64 n] w fun e w' => e = .returned (.tuple #[V 0 0 E0, .int .i64 8]) ∧ Below w.heap.size w w' := by
  have C : Hid (¬ (1 ≤ k ∧ k ≤ 17)) := c
  clear c
  go_enter Tryz.func108, Tryz.ntmps108
  go_wp2_with (first | (go_at_call 137; refine (hasNumbers_is _ _ false hk (by symm; simpa using C.out)).mono ?_; rintro e w' ⟨rfl, rfl⟩))
  exact bodyPost_ret (v := .tuple #[V 0 0 E0, .int .i64 8]) (by simp [results, Tryz.results108, go_sem]) rfl ⟨rfl, (Below.refl _ _).alloc (Nat.le_refl _) _⟩
set_option maxHeartbeats 1000000 in
theorem Int_yes (hk : 0 ≤ k ∧ k < 256) (c : 1 ≤ k ∧ k ≤ 17) (g : -9223372036854775808 ≤ n ∧ n < 9223372036854775808) (f : fitOk k n = true) : Calls Tryz.prog 108 #[.int .u8 k, .int .i64 n] w fun e w' => e = .returned (.tuple #[V k (n % 18446744073709551616) E0, .int .i64 0]) ∧ Below w.heap.size w w' := by
  have C : Hid (1 ≤ k ∧ k ≤ 17) := c
  have F : Hid (fitOk k n = true) := f
  clear c f
  go_enter Tryz.func108, Tryz.ntmps108
  go_wp2_with (first | (go_at_call 137; refine (hasNumbers_is _ _ true hk (by symm; simpa using C.out)).mono ?_; rintro e w' ⟨rfl, rfl⟩) | (go_at_call 138; refine (numberFrom_of _ _ g).mono ?_; rintro e w1 ⟨rfl, hb⟩; obtain ⟨z0, q0, q1, q2, q3, HB⟩ := step_zero hb; clear hb) | (go_at_call 130; refine (fitted_yes _ _ _ _ hk (by omega) F.out).mono ?_; rintro e w2 ⟨rfl, hb2⟩; obtain ⟨y0, n0, n1⟩ := step1 hb2 z0))
  exact bodyPost_ret (v := .tuple #[V k (n % 18446744073709551616) E0, .int .i64 0]) (by simp [results, Tryz.results108, go_sem, n0, q0, q1, q2]) rfl ⟨rfl, (((HB.trans (hb2.mono (Nat.le_of_lt z0))).setCell (by simp) _).setCell (by simp) _).setCell (by simp) _⟩
set_option maxHeartbeats 1000000 in
theorem Int_no (hk : 0 ≤ k ∧ k < 256) (c : 1 ≤ k ∧ k ≤ 17) (g : -9223372036854775808 ≤ n ∧ n < 9223372036854775808) (f : fitOk k n = false) : Calls Tryz.prog 108 #[.int .u8 k, .int .i64 n] w fun e w' => e = .returned (.tuple #[V 0 0 E0, .int .i64 1]) ∧ Below w.heap.size w w' := by
  have C : Hid (1 ≤ k ∧ k ≤ 17) := c
  have F : Hid (fitOk k n = false) := f
  clear c f
  go_enter Tryz.func108, Tryz.ntmps108
  go_wp2_with (first | (go_at_call 137; refine (hasNumbers_is _ _ true hk (by symm; simpa using C.out)).mono ?_; rintro e w' ⟨rfl, rfl⟩) | (go_at_call 138; refine (numberFrom_of _ _ g).mono ?_; rintro e w1 ⟨rfl, hb⟩; obtain ⟨z0, q0, q1, q2, q3, HB⟩ := step_zero hb; clear hb) | (go_at_call 130; refine (fitted_no _ _ _ _ hk (by omega) F.out).mono ?_; rintro e w2 ⟨rfl, hb2⟩; obtain ⟨y0, n0, n1⟩ := step1 hb2 z0))
  exact bodyPost_ret (v := .tuple #[V 0 0 E0, .int .i64 1]) (by simp [results, Tryz.results108, go_sem, n0, q0, q1, q2]) rfl ⟨rfl, (((HB.trans (hb2.mono (Nat.le_of_lt z0))).setCell (by simp) _).setCell (by simp) _).setCell (by simp) _⟩
theorem Int_of (hk : 0 ≤ k ∧ k < 256) (g : -9223372036854775808 ≤ n ∧ n < 9223372036854775808) : Calls Tryz.prog 108 #[.int .u8 k, .int .i64 n] w fun e w' => e = .returned (intR k n) ∧ Below w.heap.size w w' := by
  unfold intR
  by_cases c : 1 ≤ k ∧ k ≤ 17
  · rw [if_pos c]
    cases f : fitOk k n
    · rw [if_neg (by simp)]; exact Int_no k n w hk c g f
    · rw [if_pos rfl]; exact Int_yes k n w hk c g f
  · rw [if_neg c]; exact Int_x k n w hk c
end
end Go.Proofs.YtpaibmganlaaeaaGreatDoor
