/- The small parts of the document's gives; no statement of the seat is proved here. -/
import Derived.Test.YtpaibmganlaaeaaGreatDoorFz23
import Derived.Test.YtpaibmganlaaeaaGreatDoorFz24
import Derived.Test.YtpaibmganlaaeaaGreatDoorFz25
import Derived.Test.YtpaibmganlaaeaaGreatDoorFz26
import Derived.Test.YtpaibmganlaaeaaGreatDoorFz27
import Derived.Test.YtpaibmganlaaeaaGreatDoorFz22
namespace Go.Proofs.YtpaibmganlaaeaaGreatDoor
set_option linter.unusedVariables false
open Go.RowKit
theorem kinds8 (k : Int) : k < 1 ∨ 19 < k ∨ k = 1 ∨ (2 ≤ k ∧ k ≤ 5) ∨ (6 ≤ k ∧ k ≤ 9) ∨ (10 ≤ k ∧ k ≤ 13) ∨ k = 14 ∨ (15 ≤ k ∧ k ≤ 17) ∨ k = 18 ∨ k = 19 := by omega
theorem Result_s (op k : Int) (w : World) :
    Calls Tryz.prog 30 #[.int .i64 op, .int .u8 k, .int .u8 k] w fun e w' => e = .returned (.int .u8 (resK op k k)) ∧ w' = w := by
  rcases kinds8 k with h | h | rfl | ⟨h, h'⟩ | ⟨h, h'⟩ | ⟨h, h'⟩ | rfl | ⟨h, h'⟩ | rfl | rfl
  · exact Result_n1 op k w h
  · exact Result_n2 op k w h
  · exact Result_b op w
  · exact Result_s5 op k w h h'
  · exact Result_u op k w h h'
  · exact Result_r op k w h h'
  · exact Result_t op w
  · exact Result_d3 op k w h h'
  · exact Result_f op w
  · exact Result_x op w
theorem Result_of (op k k' : Int) (w : World) :
    Calls Tryz.prog 30 #[.int .i64 op, .int .u8 k, .int .u8 k'] w fun e w' => e = .returned (.int .u8 (resK op k k')) ∧ w' = w := by
  by_cases h : k = k'
  · subst h; exact Result_s op k w
  · exact Result_d op k k' w (by simpa using h)
end Go.Proofs.YtpaibmganlaaeaaGreatDoor
namespace Go.Proofs.YtpaibmganlaaeaaGreatDoor
set_option linter.unusedVariables false
open Go.RowKit
theorem IntR_is (k : Int) (w : World) (hk : 0 ≤ k ∧ k < 256) : Calls Tryz.prog 32 #[.int .u8 k] w fun e w' => e = .returned (.bool (intK k)) ∧ w' = w := IntegerR_is k w (intK k) hk rfl
theorem RowR_iz (k : Int) (w : World) (hk : 0 ≤ k ∧ k < 256) : Calls Tryz.prog 77 #[.int .u8 k] w fun e w' => e = .returned (.bool (rowK k)) ∧ w' = w := RowR_is k w (rowK k) hk rfl
set_option maxHeartbeats 1000000 in
theorem func2_of (a : Addr) (n cap : Nat) (κ : Nat → Int) (w : World) (hk : KsAt w a n κ) (hn : n < 1000000) (h1 : 1 ≤ n) (hc : n ≤ cap) (hr : ∀ i, 0 ≤ κ i ∧ κ i < 256) :
    Calls Tryz.prog 80 #[.slice (some a) n cap] w fun e w' => e = .returned (.bool (allI (n - 1) (fun i => κ (1 + i)))) ∧ w' = w := by
  have HK : Hid (KsAt w a n κ) := hk
  have HR : Hid _ := hr
  have e1 : (1 : Int) ≤ n := by omega
  have e2 : (n : Int) ≤ cap := by omega
  have HS : Hid (KsAt w ⟨a.block, a.off + 1, none⟩ (n - 1) (fun i => κ (1 + i))) := hk.shift (m := n - 1) 1 (by omega) (by omega)
  clear hk hr
  go_enter Tryz.func80, Tryz.ntmps80
  go_wp2
  all_goals
    go_loopw [8] (fun i wr => ∃ k : Nat, k ≤ n - 1 ∧ i = .int .i64 k ∧ wr = w ∧ ∀ j, j < k → intK (κ (1 + j)) = true) (fun i _ => n - (intOf i).toNat)
    case atStart => exact ⟨0, Nat.zero_le _, rfl, rfl, fun j hj => absurd hj (Nat.not_lt_zero _)⟩
    case round =>
      obtain ⟨k, hk, rfl, hw, hall⟩ := hrel
      subst hw
      have HA : Hid _ := hall
      clear hall
      by_cases hlt : k < n - 1
      · first
          | (exfalso; omega)
          | (have d : wr.cell? ⟨a.block, a.off + 1 + k, none⟩ = some (.int .u8 (κ (1 + k))) := by
               have q := HS.out k hlt
               cases k with
               | zero => exact q
               | succ k => exact q
             have hz := HR.out (1 + k)
             have l1 : (k : Int) < (n : Int) - 1 := by omega
             cases e : intK (κ (1 + k))
             · have E : Hid (intK (κ (1 + k)) = false) := e
               have I : Hid (∀ w, Calls Tryz.prog 32 #[.int .u8 (κ (1 + k))] w fun e w' => e = .returned (.bool false) ∧ w' = w) := fun w => by rw [← e]; exact IntR_is _ w hz
               clear e
               go_wp2_with (first | (go_at_call 32; refine (I.out _).mono ?_; rintro e w1 ⟨rfl, rfl⟩))
               go_ret
               exact ⟨ret_bool (by unfold allI; exact (decide_eq_false (fun g => by have := g k hlt; rw [E.out] at this; cases this)).symm), rfl⟩
             · have E : Hid (intK (κ (1 + k)) = true) := e
               have I : Hid (∀ w, Calls Tryz.prog 32 #[.int .u8 (κ (1 + k))] w fun e w' => e = .returned (.bool true) ∧ w' = w) := fun w => by rw [← e]; exact IntR_is _ w hz
               clear e
               go_wp2_with (first | (go_at_call 32; refine (I.out _).mono ?_; rintro e w1 ⟨rfl, rfl⟩))
               exact ⟨⟨k + 1, by omega, by go_num, (by first | rfl | trivial), fun j hj => by rcases Nat.lt_succ_iff_lt_or_eq.1 hj with h | rfl; exact HA.out j h; exact E.out⟩, by simp [intOf]; omega⟩)
      · have ek : k = n - 1 := by omega
        have l1 : ¬ (k : Int) < (n : Int) - 1 := by omega
        go_wp2
        go_ret
        exact ⟨ret_bool (by unfold allI; exact (decide_eq_true (fun i hi => HA.out i (by omega))).symm), rfl⟩
theorem elem_is (k : Int) (w : World) (p : Bool) (h : decide (1 ≤ k ∧ k ≤ 19) = p) : Calls Tryz.prog 28 #[.int .u8 k] w fun e w' => e = .returned (.bool p) ∧ w' = w := by subst h; exact elementary_of k w
set_option maxHeartbeats 1000000 in
theorem opR_of (k : Nat) (h1 : 1 ≤ k) (h2 : k ≤ 8) (w : World) : Calls Tryz.prog 31 #[.int .i64 k] w fun e w' => e = .returned (.int .i64 k) ∧ w' = w := by
  have g1 : (1 : Int) ≤ k := by omega
  have g2 : (k : Int) ≤ 8 := by omega
  go_enter Tryz.func31, Tryz.ntmps31
  go_wp2
  go_ret
  exact ⟨rfl, rfl⟩
set_option maxRecDepth 20000 in
set_option maxHeartbeats 1000000 in
theorem givR_0 (z : Int) (a : Option Addr) (cap : Nat) (w : World) : Calls Tryz.prog 14 #[.int .i64 z, .slice a 0 cap] w fun e w' => e = .returned (.int .u8 0) ∧ Below w.heap.size w w' := by
  go_enter Tryz.func14, Tryz.ntmps14
  go_wp2
  go_ret
  exact ⟨rfl, Below.refl _ _⟩
set_option maxRecDepth 20000 in
set_option maxHeartbeats 1000000 in
theorem givR_many (z : Int) (a : Option Addr) (n cap : Nat) (w : World) (h : 16 < n) : Calls Tryz.prog 14 #[.int .i64 z, .slice a n cap] w fun e w' => e = .returned (.int .u8 0) ∧ Below w.heap.size w w' := by
  have g1 : ¬ (n : Int) < 1 := by omega
  have g2 : (16 : Int) < n := by omega
  go_enter Tryz.func14, Tryz.ntmps14
  go_wp2
  go_ret
  exact ⟨rfl, Below.refl _ _⟩
set_option maxRecDepth 20000 in
set_option maxHeartbeats 1000000 in
theorem givR_elem (z : Int) (a : Addr) (n cap : Nat) (k : Int) (w : World) (h1 : 1 ≤ n) (h2 : n ≤ 16) (hc : w.cell? a = some (.int .u8 k)) (he : ¬ (1 ≤ k ∧ k ≤ 19)) : Calls Tryz.prog 14 #[.int .i64 z, .slice (some a) n cap] w fun e w' => e = .returned (.int .u8 0) ∧ Below w.heap.size w w' := by
  have g1 : ¬ (n : Int) < 1 := by omega
  have g2 : ¬ (16 : Int) < n := by omega
  have g3 : (0 : Int) < n := by omega
  have E : Hid (∀ w, Calls Tryz.prog 28 #[.int .u8 k] w fun e w' => e = .returned (.bool false) ∧ w' = w) := fun w => elem_is k w false (decide_eq_false he)
  clear he
  go_enter Tryz.func14, Tryz.ntmps14
  go_wp2_with (first | (go_at_call 28; refine (E.out _).mono ?_; rintro e w1 ⟨rfl, h⟩; subst h))
  go_ret
  exact ⟨rfl, Below.refl _ _⟩
end Go.Proofs.YtpaibmganlaaeaaGreatDoor
