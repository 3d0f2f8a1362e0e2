/- The document's Params, by the functions' numbers; no statement of the seat is proved here. -/
import Derived.Test.YtkanhbokdjppoaaGreatDoorNmJ0
namespace Go.Proofs.YtkanhbokdjppoaaGreatDoor
set_option linter.unusedVariables false
open Go.RowKit
section
variable (s : ByteArray) (y n : Int) (w : World)
set_option maxRecDepth 20000 in
set_option maxHeartbeats 2000000 in
theorem ParamsR_13 (hN : Calls Tryz.prog 25 #[.string s] w fun e w' => e = .returned (.tuple #[.int .i64 13, .int .u8 y]) ∧ Below w.heap.size w w') :
    Calls Tryz.prog 12 #[.string s, .int .i64 n] w (PmX w [⟨#[73, 78, 49]⟩, ⟨#[73, 78, 50]⟩] 3 n) := by
  have N : Hid _ := hN
  clear hN
  by_cases h1 : 2 ≤ n
  · by_cases h2 : n ≤ 16
    · have RW : Hid _ := fun w => rowR_of 1 n.toNat w (by decide) (by omega)
      have en : ((n.toNat : Nat) : Int) = n := by omega
      rw [en] at RW
      go_enter Tryz.func12, Tryz.ntmps12
      go_wp2_with (first
        | (go_at_call 25; refine Calls.mono N.out ?_; rintro e w1 ⟨rfl, hb⟩; have B1 : Hid (Below w.heap.size w w1) := hb; clear hb)
        | (go_at_call 29; refine (RW.out _).mono ?_; rintro e w2 ⟨v, rfl, ho, hb⟩; have B2 : Hid (Below w.heap.size w w2) := B1.out.trans (hb.mono B1.out.size); have O : Hid (w2.ownsRow w.heap.size 9 1 v n.toNat (stL n.toNat (fun i => inN (i + 1)))) := own_up ho B1.out.size; clear hb ho))
      go_ret
      exact pm_many h1 h2 O.out B2.out
    · go_enter Tryz.func12, Tryz.ntmps12
      go_wp2_with (first
        | (go_at_call 25; refine Calls.mono N.out ?_; rintro e w1 ⟨rfl, hb⟩; have B1 : Hid (Below w.heap.size w w1) := hb; clear hb))
      go_ret
      exact pm_nil (by simp [ctB]; omega) B1.out
  · go_enter Tryz.func12, Tryz.ntmps12
    go_wp2_with (first
      | (go_at_call 25; refine Calls.mono N.out ?_; rintro e w1 ⟨rfl, hb⟩; have B1 : Hid (Below w.heap.size w w1) := hb; clear hb))
    go_ret
    exact pm_nil (by simp [ctB]; omega) B1.out
set_option maxRecDepth 20000 in
set_option maxHeartbeats 2000000 in
theorem ParamsR_14 (hN : Calls Tryz.prog 25 #[.string s] w fun e w' => e = .returned (.tuple #[.int .i64 14, .int .u8 y]) ∧ Below w.heap.size w w') :
    Calls Tryz.prog 12 #[.string s, .int .i64 n] w (PmX w [⟨#[73, 78, 49]⟩, ⟨#[73, 78, 50]⟩] 3 n) := by
  have N : Hid _ := hN
  clear hN
  by_cases h1 : 2 ≤ n
  · by_cases h2 : n ≤ 16
    · have RW : Hid _ := fun w => rowR_of 1 n.toNat w (by decide) (by omega)
      have en : ((n.toNat : Nat) : Int) = n := by omega
      rw [en] at RW
      go_enter Tryz.func12, Tryz.ntmps12
      go_wp2_with (first
        | (go_at_call 25; refine Calls.mono N.out ?_; rintro e w1 ⟨rfl, hb⟩; have B1 : Hid (Below w.heap.size w w1) := hb; clear hb)
        | (go_at_call 29; refine (RW.out _).mono ?_; rintro e w2 ⟨v, rfl, ho, hb⟩; have B2 : Hid (Below w.heap.size w w2) := B1.out.trans (hb.mono B1.out.size); have O : Hid (w2.ownsRow w.heap.size 9 1 v n.toNat (stL n.toNat (fun i => inN (i + 1)))) := own_up ho B1.out.size; clear hb ho))
      go_ret
      exact pm_many h1 h2 O.out B2.out
    · go_enter Tryz.func12, Tryz.ntmps12
      go_wp2_with (first
        | (go_at_call 25; refine Calls.mono N.out ?_; rintro e w1 ⟨rfl, hb⟩; have B1 : Hid (Below w.heap.size w w1) := hb; clear hb))
      go_ret
      exact pm_nil (by simp [ctB]; omega) B1.out
  · go_enter Tryz.func12, Tryz.ntmps12
    go_wp2_with (first
      | (go_at_call 25; refine Calls.mono N.out ?_; rintro e w1 ⟨rfl, hb⟩; have B1 : Hid (Below w.heap.size w w1) := hb; clear hb))
    go_ret
    exact pm_nil (by simp [ctB]; omega) B1.out
set_option maxRecDepth 20000 in
set_option maxHeartbeats 2000000 in
theorem ParamsR_15 (hN : Calls Tryz.prog 25 #[.string s] w fun e w' => e = .returned (.tuple #[.int .i64 15, .int .u8 y]) ∧ Below w.heap.size w w') :
    Calls Tryz.prog 12 #[.string s, .int .i64 n] w (PmX w [⟨#[73, 78, 49]⟩, ⟨#[73, 78, 50]⟩] 3 n) := by
  have N : Hid _ := hN
  clear hN
  by_cases h1 : 2 ≤ n
  · by_cases h2 : n ≤ 16
    · have RW : Hid _ := fun w => rowR_of 1 n.toNat w (by decide) (by omega)
      have en : ((n.toNat : Nat) : Int) = n := by omega
      rw [en] at RW
      go_enter Tryz.func12, Tryz.ntmps12
      go_wp2_with (first
        | (go_at_call 25; refine Calls.mono N.out ?_; rintro e w1 ⟨rfl, hb⟩; have B1 : Hid (Below w.heap.size w w1) := hb; clear hb)
        | (go_at_call 29; refine (RW.out _).mono ?_; rintro e w2 ⟨v, rfl, ho, hb⟩; have B2 : Hid (Below w.heap.size w w2) := B1.out.trans (hb.mono B1.out.size); have O : Hid (w2.ownsRow w.heap.size 9 1 v n.toNat (stL n.toNat (fun i => inN (i + 1)))) := own_up ho B1.out.size; clear hb ho))
      go_ret
      exact pm_many h1 h2 O.out B2.out
    · go_enter Tryz.func12, Tryz.ntmps12
      go_wp2_with (first
        | (go_at_call 25; refine Calls.mono N.out ?_; rintro e w1 ⟨rfl, hb⟩; have B1 : Hid (Below w.heap.size w w1) := hb; clear hb))
      go_ret
      exact pm_nil (by simp [ctB]; omega) B1.out
  · go_enter Tryz.func12, Tryz.ntmps12
    go_wp2_with (first
      | (go_at_call 25; refine Calls.mono N.out ?_; rintro e w1 ⟨rfl, hb⟩; have B1 : Hid (Below w.heap.size w w1) := hb; clear hb))
    go_ret
    exact pm_nil (by simp [ctB]; omega) B1.out
set_option maxRecDepth 20000 in
set_option maxHeartbeats 2000000 in
theorem ParamsR_16 (hN : Calls Tryz.prog 25 #[.string s] w fun e w' => e = .returned (.tuple #[.int .i64 16, .int .u8 y]) ∧ Below w.heap.size w w') :
    Calls Tryz.prog 12 #[.string s, .int .i64 n] w (PmX w [⟨#[73, 78]⟩] 0 n) := by
  have N : Hid _ := hN
  clear hN
  by_cases h1 : n = 1
  · subst h1
    go_enter Tryz.func12, Tryz.ntmps12
    go_wp2_with (first
      | (go_at_call 25; refine Calls.mono N.out ?_; rintro e w1 ⟨rfl, hb⟩; have B1 : Hid (Below w.heap.size w w1) := hb; clear hb))
    go_ret
    exact pm_some (c := 1) rfl (by decide) rfl (by intro i hi; match i, hi with | 0, _ => exact rfl) B1.out rfl
  · go_enter Tryz.func12, Tryz.ntmps12
    go_wp2_with (first
      | (go_at_call 25; refine Calls.mono N.out ?_; rintro e w1 ⟨rfl, hb⟩; have B1 : Hid (Below w.heap.size w w1) := hb; clear hb))
    all_goals
      go_ret
      exact pm_nil (by simp [ctB]; omega) (B1.out.alloc B1.out.size _)
set_option maxRecDepth 20000 in
set_option maxHeartbeats 2000000 in
theorem ParamsR_17 (hN : Calls Tryz.prog 25 #[.string s] w fun e w' => e = .returned (.tuple #[.int .i64 17, .int .u8 y]) ∧ Below w.heap.size w w') :
    Calls Tryz.prog 12 #[.string s, .int .i64 n] w (PmX w [⟨#[73, 78]⟩] 0 n) := by
  have N : Hid _ := hN
  clear hN
  by_cases h1 : n = 1
  · subst h1
    go_enter Tryz.func12, Tryz.ntmps12
    go_wp2_with (first
      | (go_at_call 25; refine Calls.mono N.out ?_; rintro e w1 ⟨rfl, hb⟩; have B1 : Hid (Below w.heap.size w w1) := hb; clear hb))
    go_ret
    exact pm_some (c := 1) rfl (by decide) rfl (by intro i hi; match i, hi with | 0, _ => exact rfl) B1.out rfl
  · go_enter Tryz.func12, Tryz.ntmps12
    go_wp2_with (first
      | (go_at_call 25; refine Calls.mono N.out ?_; rintro e w1 ⟨rfl, hb⟩; have B1 : Hid (Below w.heap.size w w1) := hb; clear hb))
    all_goals
      go_ret
      exact pm_nil (by simp [ctB]; omega) (B1.out.alloc B1.out.size _)
set_option maxRecDepth 20000 in
set_option maxHeartbeats 2000000 in
theorem ParamsR_18 (hN : Calls Tryz.prog 25 #[.string s] w fun e w' => e = .returned (.tuple #[.int .i64 18, .int .u8 y]) ∧ Below w.heap.size w w') :
    Calls Tryz.prog 12 #[.string s, .int .i64 n] w (PmX w [⟨#[73, 78, 49]⟩, ⟨#[73, 78, 50]⟩] 3 n) := by
  have N : Hid _ := hN
  clear hN
  by_cases h1 : 2 ≤ n
  · by_cases h2 : n ≤ 16
    · have RW : Hid _ := fun w => rowR_of 1 n.toNat w (by decide) (by omega)
      have en : ((n.toNat : Nat) : Int) = n := by omega
      rw [en] at RW
      go_enter Tryz.func12, Tryz.ntmps12
      go_wp2_with (first
        | (go_at_call 25; refine Calls.mono N.out ?_; rintro e w1 ⟨rfl, hb⟩; have B1 : Hid (Below w.heap.size w w1) := hb; clear hb)
        | (go_at_call 29; refine (RW.out _).mono ?_; rintro e w2 ⟨v, rfl, ho, hb⟩; have B2 : Hid (Below w.heap.size w w2) := B1.out.trans (hb.mono B1.out.size); have O : Hid (w2.ownsRow w.heap.size 9 1 v n.toNat (stL n.toNat (fun i => inN (i + 1)))) := own_up ho B1.out.size; clear hb ho))
      go_ret
      exact pm_many h1 h2 O.out B2.out
    · go_enter Tryz.func12, Tryz.ntmps12
      go_wp2_with (first
        | (go_at_call 25; refine Calls.mono N.out ?_; rintro e w1 ⟨rfl, hb⟩; have B1 : Hid (Below w.heap.size w w1) := hb; clear hb))
      go_ret
      exact pm_nil (by simp [ctB]; omega) B1.out
  · go_enter Tryz.func12, Tryz.ntmps12
    go_wp2_with (first
      | (go_at_call 25; refine Calls.mono N.out ?_; rintro e w1 ⟨rfl, hb⟩; have B1 : Hid (Below w.heap.size w w1) := hb; clear hb))
    go_ret
    exact pm_nil (by simp [ctB]; omega) B1.out
set_option maxRecDepth 20000 in
set_option maxHeartbeats 2000000 in
theorem ParamsR_19 (hN : Calls Tryz.prog 25 #[.string s] w fun e w' => e = .returned (.tuple #[.int .i64 19, .int .u8 y]) ∧ Below w.heap.size w w') :
    Calls Tryz.prog 12 #[.string s, .int .i64 n] w (PmX w [⟨#[73, 78, 49]⟩, ⟨#[73, 78, 50]⟩] 3 n) := by
  have N : Hid _ := hN
  clear hN
  by_cases h1 : 2 ≤ n
  · by_cases h2 : n ≤ 16
    · have RW : Hid _ := fun w => rowR_of 1 n.toNat w (by decide) (by omega)
      have en : ((n.toNat : Nat) : Int) = n := by omega
      rw [en] at RW
      go_enter Tryz.func12, Tryz.ntmps12
      go_wp2_with (first
        | (go_at_call 25; refine Calls.mono N.out ?_; rintro e w1 ⟨rfl, hb⟩; have B1 : Hid (Below w.heap.size w w1) := hb; clear hb)
        | (go_at_call 29; refine (RW.out _).mono ?_; rintro e w2 ⟨v, rfl, ho, hb⟩; have B2 : Hid (Below w.heap.size w w2) := B1.out.trans (hb.mono B1.out.size); have O : Hid (w2.ownsRow w.heap.size 9 1 v n.toNat (stL n.toNat (fun i => inN (i + 1)))) := own_up ho B1.out.size; clear hb ho))
      go_ret
      exact pm_many h1 h2 O.out B2.out
    · go_enter Tryz.func12, Tryz.ntmps12
      go_wp2_with (first
        | (go_at_call 25; refine Calls.mono N.out ?_; rintro e w1 ⟨rfl, hb⟩; have B1 : Hid (Below w.heap.size w w1) := hb; clear hb))
      go_ret
      exact pm_nil (by simp [ctB]; omega) B1.out
  · go_enter Tryz.func12, Tryz.ntmps12
    go_wp2_with (first
      | (go_at_call 25; refine Calls.mono N.out ?_; rintro e w1 ⟨rfl, hb⟩; have B1 : Hid (Below w.heap.size w w1) := hb; clear hb))
    go_ret
    exact pm_nil (by simp [ctB]; omega) B1.out
set_option maxRecDepth 20000 in
set_option maxHeartbeats 2000000 in
theorem ParamsR_20 (hN : Calls Tryz.prog 25 #[.string s] w fun e w' => e = .returned (.tuple #[.int .i64 20, .int .u8 y]) ∧ Below w.heap.size w w') :
    Calls Tryz.prog 12 #[.string s, .int .i64 n] w (PmX w [⟨#[77, 78]⟩, ⟨#[73, 78]⟩, ⟨#[77, 88]⟩] 0 n) := by
  have N : Hid _ := hN
  clear hN
  by_cases h1 : n = 3
  · subst h1
    go_enter Tryz.func12, Tryz.ntmps12
    go_wp2_with (first
      | (go_at_call 25; refine Calls.mono N.out ?_; rintro e w1 ⟨rfl, hb⟩; have B1 : Hid (Below w.heap.size w w1) := hb; clear hb))
    go_ret
    exact pm_some (c := 3) rfl (by decide) rfl (by intro i hi; match i, hi with | 0, _ => exact rfl | 1, _ => exact rfl | 2, _ => exact rfl) B1.out rfl
  · go_enter Tryz.func12, Tryz.ntmps12
    go_wp2_with (first
      | (go_at_call 25; refine Calls.mono N.out ?_; rintro e w1 ⟨rfl, hb⟩; have B1 : Hid (Below w.heap.size w w1) := hb; clear hb))
    all_goals
      go_ret
      exact pm_nil (by simp [ctB]; omega) (B1.out.alloc B1.out.size _)
set_option maxRecDepth 20000 in
set_option maxHeartbeats 2000000 in
theorem ParamsR_21 (hN : Calls Tryz.prog 25 #[.string s] w fun e w' => e = .returned (.tuple #[.int .i64 21, .int .u8 y]) ∧ Below w.heap.size w w') :
    Calls Tryz.prog 12 #[.string s, .int .i64 n] w (PmX w [⟨#[71]⟩, ⟨#[73, 78, 48]⟩, ⟨#[73, 78, 49]⟩] 0 n) := by
  have N : Hid _ := hN
  clear hN
  by_cases h1 : n = 3
  · subst h1
    go_enter Tryz.func12, Tryz.ntmps12
    go_wp2_with (first
      | (go_at_call 25; refine Calls.mono N.out ?_; rintro e w1 ⟨rfl, hb⟩; have B1 : Hid (Below w.heap.size w w1) := hb; clear hb))
    go_ret
    exact pm_some (c := 3) rfl (by decide) rfl (by intro i hi; match i, hi with | 0, _ => exact rfl | 1, _ => exact rfl | 2, _ => exact rfl) B1.out rfl
  · go_enter Tryz.func12, Tryz.ntmps12
    go_wp2_with (first
      | (go_at_call 25; refine Calls.mono N.out ?_; rintro e w1 ⟨rfl, hb⟩; have B1 : Hid (Below w.heap.size w w1) := hb; clear hb))
    all_goals
      go_ret
      exact pm_nil (by simp [ctB]; omega) (B1.out.alloc B1.out.size _)
set_option maxRecDepth 20000 in
set_option maxHeartbeats 2000000 in
theorem ParamsR_23 (hN : Calls Tryz.prog 25 #[.string s] w fun e w' => e = .returned (.tuple #[.int .i64 23, .int .u8 y]) ∧ Below w.heap.size w w') :
    Calls Tryz.prog 12 #[.string s, .int .i64 n] w (PmX w [⟨#[73, 78]⟩, ⟨#[78]⟩] 0 n) := by
  have N : Hid _ := hN
  clear hN
  by_cases h1 : n = 2
  · subst h1
    go_enter Tryz.func12, Tryz.ntmps12
    go_wp2_with (first
      | (go_at_call 25; refine Calls.mono N.out ?_; rintro e w1 ⟨rfl, hb⟩; have B1 : Hid (Below w.heap.size w w1) := hb; clear hb))
    go_ret
    exact pm_some (c := 2) rfl (by decide) rfl (by intro i hi; match i, hi with | 0, _ => exact rfl | 1, _ => exact rfl) B1.out rfl
  · go_enter Tryz.func12, Tryz.ntmps12
    go_wp2_with (first
      | (go_at_call 25; refine Calls.mono N.out ?_; rintro e w1 ⟨rfl, hb⟩; have B1 : Hid (Below w.heap.size w w1) := hb; clear hb))
    all_goals
      go_ret
      exact pm_nil (by simp [ctB]; omega) (B1.out.alloc B1.out.size _)
set_option maxRecDepth 20000 in
set_option maxHeartbeats 2000000 in
theorem ParamsR_24 (hN : Calls Tryz.prog 25 #[.string s] w fun e w' => e = .returned (.tuple #[.int .i64 24, .int .u8 y]) ∧ Below w.heap.size w w') :
    Calls Tryz.prog 12 #[.string s, .int .i64 n] w (PmX w [⟨#[73, 78]⟩, ⟨#[78]⟩] 0 n) := by
  have N : Hid _ := hN
  clear hN
  by_cases h1 : n = 2
  · subst h1
    go_enter Tryz.func12, Tryz.ntmps12
    go_wp2_with (first
      | (go_at_call 25; refine Calls.mono N.out ?_; rintro e w1 ⟨rfl, hb⟩; have B1 : Hid (Below w.heap.size w w1) := hb; clear hb))
    go_ret
    exact pm_some (c := 2) rfl (by decide) rfl (by intro i hi; match i, hi with | 0, _ => exact rfl | 1, _ => exact rfl) B1.out rfl
  · go_enter Tryz.func12, Tryz.ntmps12
    go_wp2_with (first
      | (go_at_call 25; refine Calls.mono N.out ?_; rintro e w1 ⟨rfl, hb⟩; have B1 : Hid (Below w.heap.size w w1) := hb; clear hb))
    all_goals
      go_ret
      exact pm_nil (by simp [ctB]; omega) (B1.out.alloc B1.out.size _)
end
end Go.Proofs.YtkanhbokdjppoaaGreatDoor
