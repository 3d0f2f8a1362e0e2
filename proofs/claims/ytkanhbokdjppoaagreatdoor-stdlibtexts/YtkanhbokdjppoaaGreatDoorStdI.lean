/- Which kinds the functions of texts take; no statement of the seat is proved here. -/
import Derived.Test.YtkanhbokdjppoaaGreatDoorStdA
namespace Go.Proofs.YtkanhbokdjppoaaGreatDoor
set_option linter.unusedVariables false
open Go.RowKit
/-- Are all kinds those of texts; of integers? -/
def allT (n : Nat) (κ : Nat → Int) : Bool := decide (∀ i, i < n → κ i = 19)
def allI (n : Nat) (κ : Nat → Int) : Bool := decide (∀ i, i < n → intK (κ i) = true)
theorem KsAt.shift {w : World} {a : Addr} {n m : Nat} {κ : Nat → Int} (h : KsAt w a n κ) (j : Nat) (hj : 0 < j) (hm : j + m ≤ n) : KsAt w ⟨a.block, a.off + j, none⟩ m (fun i => κ (j + i)) := by
  intro i hi
  have := h (j + i) (by omega)
  rw [← this]
  unfold Addr.add
  by_cases e : i = 0
  · subst e; rw [if_pos rfl, if_neg (by omega)]
    rfl
  · rw [if_neg e, if_neg (by omega)]
    simp [Nat.add_assoc]
theorem KsAt.less {w : World} {a : Addr} {n m : Nat} {κ : Nat → Int} (h : KsAt w a n κ) (hm : m ≤ n) : KsAt w a m κ := fun i hi => h i (by omega)
set_option maxHeartbeats 1000000 in
theorem texts_of (a : Addr) (n cap : Nat) (κ : Nat → Int) (w : World) (hk : KsAt w a n κ) (hn : n < 1000000) :
    Calls Tryz.prog 120 #[.slice (some a) n cap] w fun e w' => e = .returned (.bool (allT n κ)) ∧ w' = w := by
  have HK : Hid (KsAt w a n κ) := hk
  clear hk
  go_enter Tryz.func120, Tryz.ntmps120
  go_wp2
  go_loopw [7] (fun i wr => ∃ k : Nat, k ≤ n ∧ i = .int .i64 k ∧ wr = w ∧ ∀ j, j < k → κ j = 19) (fun i _ => n - (intOf i).toNat)
  case atStart => exact ⟨0, Nat.zero_le _, rfl, rfl, fun j hj => absurd hj (Nat.not_lt_zero _)⟩
  case round =>
    obtain ⟨k, hk, rfl, hw, hall⟩ := hrel
    subst hw
    have HA : Hid _ := hall
    clear hall
    by_cases hlt : k < n
    · have d := HK.out k hlt
      by_cases e : κ k = 19
      · have e1 : (κ k != 19) = false := by simpa using e
        have e2 : (κ k == 19) = true := by simpa using e
        have E : Hid (κ k = 19) := e
        clear e
        go_wp2
        exact ⟨⟨k + 1, by omega, by go_num, (by first | rfl | trivial), fun j hj => by rcases Nat.lt_succ_iff_lt_or_eq.1 hj with h | rfl; exact HA.out j h; exact E.out⟩, by simp [intOf]; omega⟩
      · have e1 : (κ k != 19) = true := by simpa using e
        have e2 : (κ k == 19) = false := by simpa using e
        have E : Hid (¬ κ k = 19) := e
        clear e
        go_wp2
        go_ret
        exact ⟨ret_bool (by unfold allT; exact (decide_eq_false (fun g => E.out (g k hlt))).symm), rfl⟩
    · have ek : k = n := by omega
      go_wp2
      go_ret
      exact ⟨ret_bool (by unfold allT; exact (decide_eq_true (fun i hi => HA.out i (by omega))).symm), rfl⟩
set_option maxHeartbeats 1000000 in
theorem integers_of (a : Option Addr) (n cap : Nat) (κ : Nat → Int) (w : World) (hk : ∀ b, a = some b → KsAt w b n κ) (ha : a = none → n = 0) (hn : n < 1000000) :
    Calls Tryz.prog 121 #[.slice a n cap] w fun e w' => e = .returned (.bool (allI n κ)) ∧ w' = w := by
  have HK : Hid (∀ b, a = some b → KsAt w b n κ) := hk
  have HA0 : Hid (a = none → n = 0) := ha
  clear hk ha
  go_enter Tryz.func121, Tryz.ntmps121
  go_wp2
  go_loopw [7] (fun i wr => ∃ k : Nat, k ≤ n ∧ i = .int .i64 k ∧ wr = w ∧ ∀ j, j < k → intK (κ j) = true) (fun i _ => n - (intOf i).toNat)
  case atStart => exact ⟨0, Nat.zero_le _, rfl, rfl, fun j hj => absurd hj (Nat.not_lt_zero _)⟩
  case round =>
    obtain ⟨k, hk, rfl, hw, hall⟩ := hrel
    subst hw
    have HA : Hid _ := hall
    clear hall
    by_cases hlt : k < n
    · obtain ⟨b, rfl⟩ : ∃ b, a = some b := by
        cases a with
        | none => have := HA0.out rfl; omega
        | some b => exact ⟨b, rfl⟩
      have d := HK.out b rfl k hlt
      cases e : intK (κ k)
      · have E : Hid (intK (κ k) = false) := e
        clear e
        go_wp2_with (first | (go_at_call 107; refine (isInteger_is _ _ false E.out).mono ?_; rintro e w1 ⟨rfl, rfl⟩))
        go_ret
        exact ⟨ret_bool (by unfold allI; exact (decide_eq_false (fun g => by have := g k hlt; rw [E.out] at this; cases this)).symm), rfl⟩
      · have E : Hid (intK (κ k) = true) := e
        clear e
        go_wp2_with (first | (go_at_call 107; refine (isInteger_is _ _ true E.out).mono ?_; rintro e w1 ⟨rfl, rfl⟩))
        exact ⟨⟨k + 1, by omega, by go_num, (by first | rfl | trivial), fun j hj => by rcases Nat.lt_succ_iff_lt_or_eq.1 hj with h | rfl; exact HA.out j h; exact E.out⟩, by simp [intOf]; omega⟩
    · have ek : k = n := by omega
      go_wp2
      go_ret
      exact ⟨ret_bool (by unfold allI; exact (decide_eq_true (fun i hi => HA.out i (by omega))).symm), rfl⟩
theorem texts_is (a : Addr) (n cap : Nat) (κ : Nat → Int) (w : World) (p : Bool) (hk : KsAt w a n κ) (hn : n < 1000000) (hp : allT n κ = p) :
    Calls Tryz.prog 120 #[.slice (some a) n cap] w fun e w' => e = .returned (.bool p) ∧ w' = w := by subst hp; exact texts_of a n cap κ w hk hn
theorem integers_is (a : Addr) (n cap : Nat) (κ : Nat → Int) (w : World) (p : Bool) (hk : KsAt w a n κ) (hn : n < 1000000) (hp : allI n κ = p) :
    Calls Tryz.prog 121 #[.slice (some a) n cap] w fun e w' => e = .returned (.bool p) ∧ w' = w := by
  subst hp; exact integers_of (some a) n cap κ w (fun b e => by cases e; exact hk) (fun e => by cases e) hn
set_option maxHeartbeats 1000000 in
theorem oneText_of (gv : Int) (hg : 0 ≤ gv ∧ gv < 256) (g n cap : Nat) (κ : Nat → Int) (w : World) (hk : KsAt w ⟨g, 0, none⟩ n κ) (hn : n < 1000000) (h2 : 2 ≤ n) (hc : n ≤ cap) (p q : Bool) (hp : allT 1 κ = p) (hq : allI (n - 1) (fun i => κ (1 + i)) = q) :
    Calls Tryz.prog 74 #[.int .i64 gv, .slice (some ⟨g, 0, none⟩) n cap] w fun e w' => e = .returned (.int .u8 (gvK gv (p && q))) ∧ Below w.heap.size w w' := by
  have T : Hid (∀ (W : World) c, Below w.heap.size w W → Calls Tryz.prog 120 #[.slice (some ⟨g, 0, none⟩) 1 c] W fun e w' => e = .returned (.bool p) ∧ w' = W) := fun W c hb => texts_is _ 1 c κ W p ((hk.less (by omega)).below hb) (by omega) hp
  have I : Hid (∀ (W : World) c, Below w.heap.size w W → Calls Tryz.prog 121 #[.slice (some ⟨g, 1, none⟩) (n - 1) c] W fun e w' => e = .returned (.bool q) ∧ w' = W) := fun W c hb => integers_is _ (n - 1) c _ W q (by have := (hk.shift (m := n - 1) 1 (by omega) (by omega)).below hb; simpa using this) (by omega) hq
  clear hk hp hq
  have e1 : (1 : Int) ≤ n := by omega
  have e2 : (n : Int) ≤ cap := by omega
  cases p <;> cases q
  all_goals
    go_enter Tryz.func74, Tryz.ntmps74
    go_wp2_with (first | (go_at_call 120; refine (T.out _ _ (Below.refl _ _)).mono ?_; rintro e w1 ⟨rfl, h1⟩; subst h1) | (go_at_call 121; refine (I.out _ _ (Below.refl _ _)).mono ?_; rintro e w2 ⟨rfl, h2⟩; subst h2) | (go_at_call 104; refine (given_of _ _ _).mono ?_; rintro e w3 ⟨rfl, h3⟩; subst h3))
    go_ret
    exact ⟨by simp, Below.refl _ _⟩
set_option maxHeartbeats 1000000 in
theorem twoTexts_of (gv : Int) (hg : 0 ≤ gv ∧ gv < 256) (g n cap : Nat) (κ : Nat → Int) (w : World) (hk : KsAt w ⟨g, 0, none⟩ n κ) (hn : n < 1000000) (h2 : 3 ≤ n) (hc : n ≤ cap) (p q : Bool) (hp : allT 2 κ = p) (hq : allI (n - 2) (fun i => κ (2 + i)) = q) :
    Calls Tryz.prog 81 #[.int .i64 gv, .slice (some ⟨g, 0, none⟩) n cap] w fun e w' => e = .returned (.int .u8 (gvK gv (p && q))) ∧ Below w.heap.size w w' := by
  have T : Hid (∀ (W : World) c, Below w.heap.size w W → Calls Tryz.prog 120 #[.slice (some ⟨g, 0, none⟩) 2 c] W fun e w' => e = .returned (.bool p) ∧ w' = W) := fun W c hb => texts_is _ 2 c κ W p ((hk.less (by omega)).below hb) (by omega) hp
  have I : Hid (∀ (W : World) c, Below w.heap.size w W → Calls Tryz.prog 121 #[.slice (some ⟨g, 2, none⟩) (n - 2) c] W fun e w' => e = .returned (.bool q) ∧ w' = W) := fun W c hb => integers_is _ (n - 2) c _ W q (by have := (hk.shift (m := n - 2) 2 (by omega) (by omega)).below hb; simpa using this) (by omega) hq
  clear hk hp hq
  have e1 : (2 : Int) ≤ n := by omega
  have e2 : (n : Int) ≤ cap := by omega
  cases p <;> cases q
  all_goals
    go_enter Tryz.func81, Tryz.ntmps81
    go_wp2_with (first | (go_at_call 120; refine (T.out _ _ (Below.refl _ _)).mono ?_; rintro e w1 ⟨rfl, h1⟩; subst h1) | (go_at_call 121; refine (I.out _ _ (Below.refl _ _)).mono ?_; rintro e w2 ⟨rfl, h2⟩; subst h2) | (go_at_call 104; refine (given_of _ _ _).mono ?_; rintro e w3 ⟨rfl, h3⟩; subst h3))
    go_ret
    exact ⟨by simp, Below.refl _ _⟩
set_option maxHeartbeats 1000000 in
theorem allTexts_of (gv : Int) (hg : 0 ≤ gv ∧ gv < 256) (g n cap : Nat) (κ : Nat → Int) (w : World) (hk : KsAt w ⟨g, 0, none⟩ n κ) (hn : n < 1000000) :
    Calls Tryz.prog 79 #[.int .i64 gv, .slice (some ⟨g, 0, none⟩) n cap] w fun e w' => e = .returned (.int .u8 (gvK gv (allT n κ))) ∧ Below w.heap.size w w' := by
  have T : Hid (∀ (W : World) c, Below w.heap.size w W → Calls Tryz.prog 120 #[.slice (some ⟨g, 0, none⟩) n c] W fun e w' => e = .returned (.bool (allT n κ)) ∧ w' = W) := fun W c hb => texts_of _ n c κ W (hk.below hb) (by omega)
  clear hk
  go_enter Tryz.func79, Tryz.ntmps79
  go_wp2_with (first | (go_at_call 120; refine (T.out _ _ (Below.refl _ _)).mono ?_; rintro e w1 ⟨rfl, h1⟩; subst h1) | (go_at_call 104; refine (given_of _ _ _).mono ?_; rintro e w3 ⟨rfl, h3⟩; subst h3))
  go_ret
  exact ⟨rfl, Below.refl _ _⟩
end Go.Proofs.YtkanhbokdjppoaaGreatDoor
