/- Widens of the program and of the document answer the same; no statement of the seat is proved here. -/
import Derived.Test.YtbmpncnboanbaaaWid
namespace Go.Proofs.Ytbmpncnboanbaaa
set_option linter.unusedVariables false
open Go.RowKit
/-- Are values of a kind taken for another one? -/
def wid (a b : Int) : Bool :=
  if rwK a then rwK b && decide (a < b) else if itK a = false then false else if b = 18 then decide (a ≠ 5 ∧ a ≠ 9)
  else if sgK a = sgK b then itK b && decide (a < b) else sgK b && decide (a - 6 < b - 2)
/-- The same, as the document has it. -/
def widR (a b : Int) : Bool :=
  if b = 18 then decide (2 ≤ a) && decide (a ≤ 4) || decide (6 ≤ a) && decide (a ≤ 8)
  else (rwK a && rwK b || (sgK a && sgK b || usK a && usK b) || usK a && sgK b) && decide (wdK a < wdK b)
set_option maxHeartbeats 1000000 in
theorem WidensC_of (a b : Int) (ha : 0 ≤ a ∧ a < 256) (hb : 0 ≤ b ∧ b < 256) (w : World) :
    Calls Try.prog 4 #[.int .u8 a, .int .u8 b] w fun e w' => e = .returned (.bool (wid a b)) ∧ w' = w := by
  have RA : Hid (∀ w, Calls Try.prog 6 #[.int .u8 a] w fun e w' => e = .returned (.bool (rwK a)) ∧ w' = w) := cRow_of a
  have RB : Hid (∀ w, Calls Try.prog 6 #[.int .u8 b] w fun e w' => e = .returned (.bool (rwK b)) ∧ w' = w) := cRow_of b
  have IA : Hid (∀ w, Calls Try.prog 7 #[.int .u8 a] w fun e w' => e = .returned (.bool (itK a)) ∧ w' = w) := cInt_of a
  have IB : Hid (∀ w, Calls Try.prog 7 #[.int .u8 b] w fun e w' => e = .returned (.bool (itK b)) ∧ w' = w) := cInt_of b
  have SA : Hid (∀ w, Calls Try.prog 8 #[.int .u8 a] w fun e w' => e = .returned (.bool (sgK a)) ∧ w' = w) := cSgn_of a
  have SB : Hid (∀ w, Calls Try.prog 8 #[.int .u8 b] w fun e w' => e = .returned (.bool (sgK b)) ∧ w' = w) := cSgn_of b
  obtain ⟨ra, era⟩ : ∃ p, rwK a = p := ⟨_, rfl⟩
  obtain ⟨ia, eia⟩ : ∃ p, itK a = p := ⟨_, rfl⟩
  obtain ⟨sa, esa⟩ : ∃ p, sgK a = p := ⟨_, rfl⟩
  obtain ⟨rb, erb⟩ : ∃ p, rwK b = p := ⟨_, rfl⟩
  obtain ⟨ib, eib⟩ : ∃ p, itK b = p := ⟨_, rfl⟩
  obtain ⟨sb, esb⟩ : ∃ p, sgK b = p := ⟨_, rfl⟩
  have E : Hid (rwK a = ra ∧ itK a = ia ∧ sgK a = sa ∧ rwK b = rb ∧ itK b = ib ∧ sgK b = sb) := ⟨era, eia, esa, erb, eib, esb⟩
  rw [era] at RA; rw [eia] at IA; rw [esa] at SA; rw [erb] at RB; rw [eib] at IB; rw [esb] at SB
  unfold wid
  rw [era, eia, esa, erb, eib, esb]
  clear era eia esa erb eib esb
  cases ra
  · cases ia
    · go_enter Try.func4, Try.ntmps4
      go_wp2_with (first | (go_at_call 6; with_reducible refine (RA.out _).mono ?_; rintro e w1 ⟨rfl, h1⟩; subst h1) | (go_at_call 6; with_reducible refine (RB.out _).mono ?_; rintro e w1 ⟨rfl, h1⟩; subst h1) | (go_at_call 7; with_reducible refine (IA.out _).mono ?_; rintro e w1 ⟨rfl, h1⟩; subst h1) | (go_at_call 7; with_reducible refine (IB.out _).mono ?_; rintro e w1 ⟨rfl, h1⟩; subst h1) | (go_at_call 8; with_reducible refine (SA.out _).mono ?_; rintro e w1 ⟨rfl, h1⟩; subst h1) | (go_at_call 8; with_reducible refine (SB.out _).mono ?_; rintro e w1 ⟨rfl, h1⟩; subst h1))
      go_ret
      exact ⟨by simp, rfl⟩
    · by_cases hb18 : b = 18
      · subst hb18
        rcases e5 : (a != 5) with _ | _ <;> rcases e9 : (a != 9) with _ | _
        all_goals
          go_enter Try.func4, Try.ntmps4
          go_wp2_with (first | (go_at_call 6; with_reducible refine (RA.out _).mono ?_; rintro e w1 ⟨rfl, h1⟩; subst h1) | (go_at_call 6; with_reducible refine (RB.out _).mono ?_; rintro e w1 ⟨rfl, h1⟩; subst h1) | (go_at_call 7; with_reducible refine (IA.out _).mono ?_; rintro e w1 ⟨rfl, h1⟩; subst h1) | (go_at_call 7; with_reducible refine (IB.out _).mono ?_; rintro e w1 ⟨rfl, h1⟩; subst h1) | (go_at_call 8; with_reducible refine (SA.out _).mono ?_; rintro e w1 ⟨rfl, h1⟩; subst h1) | (go_at_call 8; with_reducible refine (SB.out _).mono ?_; rintro e w1 ⟨rfl, h1⟩; subst h1))
          go_ret
          exact ⟨ret_b (by simp at e5 e9 ⊢; omega), rfl⟩
      · have n18 : (b == 18) = false := by simpa using hb18
        have N18 : Hid (¬ b = 18) := hb18
        clear hb18
        cases sa <;> cases sb
        all_goals
          go_enter Try.func4, Try.ntmps4
          go_wp2_with (first | (go_at_call 6; with_reducible refine (RA.out _).mono ?_; rintro e w1 ⟨rfl, h1⟩; subst h1) | (go_at_call 6; with_reducible refine (RB.out _).mono ?_; rintro e w1 ⟨rfl, h1⟩; subst h1) | (go_at_call 7; with_reducible refine (IA.out _).mono ?_; rintro e w1 ⟨rfl, h1⟩; subst h1) | (go_at_call 7; with_reducible refine (IB.out _).mono ?_; rintro e w1 ⟨rfl, h1⟩; subst h1) | (go_at_call 8; with_reducible refine (SA.out _).mono ?_; rintro e w1 ⟨rfl, h1⟩; subst h1) | (go_at_call 8; with_reducible refine (SB.out _).mono ?_; rintro e w1 ⟨rfl, h1⟩; subst h1))
        all_goals
          go_ret
          refine ⟨ret_b ?_, rfl⟩
          have q := E.out
          have n := N18.out
          clear E N18 RA RB IA IB SA SB
          simp only [rwK, itK, sgK, decide_eq_true_eq, decide_eq_false_iff_not] at q
          first | rfl | (rw [Bool.eq_iff_iff]; simp; omega)
  · cases rb
    · go_enter Try.func4, Try.ntmps4
      go_wp2_with (first | (go_at_call 6; with_reducible refine (RA.out _).mono ?_; rintro e w1 ⟨rfl, h1⟩; subst h1) | (go_at_call 6; with_reducible refine (RB.out _).mono ?_; rintro e w1 ⟨rfl, h1⟩; subst h1) | (go_at_call 7; with_reducible refine (IA.out _).mono ?_; rintro e w1 ⟨rfl, h1⟩; subst h1) | (go_at_call 7; with_reducible refine (IB.out _).mono ?_; rintro e w1 ⟨rfl, h1⟩; subst h1) | (go_at_call 8; with_reducible refine (SA.out _).mono ?_; rintro e w1 ⟨rfl, h1⟩; subst h1) | (go_at_call 8; with_reducible refine (SB.out _).mono ?_; rintro e w1 ⟨rfl, h1⟩; subst h1))
      go_ret
      exact ⟨by simp, rfl⟩
    · go_enter Try.func4, Try.ntmps4
      go_wp2_with (first | (go_at_call 6; with_reducible refine (RA.out _).mono ?_; rintro e w1 ⟨rfl, h1⟩; subst h1) | (go_at_call 6; with_reducible refine (RB.out _).mono ?_; rintro e w1 ⟨rfl, h1⟩; subst h1) | (go_at_call 7; with_reducible refine (IA.out _).mono ?_; rintro e w1 ⟨rfl, h1⟩; subst h1) | (go_at_call 7; with_reducible refine (IB.out _).mono ?_; rintro e w1 ⟨rfl, h1⟩; subst h1) | (go_at_call 8; with_reducible refine (SA.out _).mono ?_; rintro e w1 ⟨rfl, h1⟩; subst h1) | (go_at_call 8; with_reducible refine (SB.out _).mono ?_; rintro e w1 ⟨rfl, h1⟩; subst h1))
      go_ret
      exact ⟨by simp, rfl⟩
set_option maxHeartbeats 1000000 in
theorem WidensR_of (a b : Int) (ha : 0 ≤ a ∧ a < 256) (hb : 0 ≤ b ∧ b < 256) (w : World) :
    Calls Try.prog 5 #[.int .u8 a, .int .u8 b] w fun e w' => e = .returned (.bool (widR a b)) ∧ w' = w := by
  have RA : Hid (∀ w, Calls Try.prog 9 #[.int .u8 a] w fun e w' => e = .returned (.bool (rwK a)) ∧ w' = w) := rRow_of a
  have SA : Hid (∀ w, Calls Try.prog 10 #[.int .u8 a] w fun e w' => e = .returned (.bool (sgK a)) ∧ w' = w) := rSgn_of a
  have UA : Hid (∀ w, Calls Try.prog 11 #[.int .u8 a] w fun e w' => e = .returned (.bool (usK a)) ∧ w' = w) := rUns_of a
  have WA : Hid (∀ w, Calls Try.prog 12 #[.int .u8 a] w fun e w' => e = .returned (.int .i64 (wdK a)) ∧ w' = w) := rWid_of a ha
  have RB : Hid (∀ w, Calls Try.prog 9 #[.int .u8 b] w fun e w' => e = .returned (.bool (rwK b)) ∧ w' = w) := rRow_of b
  have SB : Hid (∀ w, Calls Try.prog 10 #[.int .u8 b] w fun e w' => e = .returned (.bool (sgK b)) ∧ w' = w) := rSgn_of b
  have UB : Hid (∀ w, Calls Try.prog 11 #[.int .u8 b] w fun e w' => e = .returned (.bool (usK b)) ∧ w' = w) := rUns_of b
  have WB : Hid (∀ w, Calls Try.prog 12 #[.int .u8 b] w fun e w' => e = .returned (.int .i64 (wdK b)) ∧ w' = w) := rWid_of b hb
  by_cases hb18 : b = 18
  · subst hb18
    have e0 : widR a 18 = (decide (2 ≤ a) && decide (a ≤ 4) || decide (6 ≤ a) && decide (a ≤ 8)) := by unfold widR; rfl
    rw [e0]
    by_cases h2 : 2 ≤ a <;> by_cases h4 : a ≤ 4 <;> by_cases h6 : 6 ≤ a <;> by_cases h8 : a ≤ 8
    all_goals first | (exfalso; omega) | skip
    all_goals
      go_enter Try.func5, Try.ntmps5
      go_wp2_with (first | (go_at_call 9; with_reducible refine (RA.out _).mono ?_; rintro e w1 ⟨rfl, h1⟩; subst h1) | (go_at_call 9; with_reducible refine (RB.out _).mono ?_; rintro e w1 ⟨rfl, h1⟩; subst h1) | (go_at_call 10; with_reducible refine (SA.out _).mono ?_; rintro e w1 ⟨rfl, h1⟩; subst h1) | (go_at_call 10; with_reducible refine (SB.out _).mono ?_; rintro e w1 ⟨rfl, h1⟩; subst h1) | (go_at_call 11; with_reducible refine (UA.out _).mono ?_; rintro e w1 ⟨rfl, h1⟩; subst h1) | (go_at_call 11; with_reducible refine (UB.out _).mono ?_; rintro e w1 ⟨rfl, h1⟩; subst h1) | (go_at_call 12; with_reducible refine (WA.out _).mono ?_; rintro e w1 ⟨rfl, h1⟩; subst h1) | (go_at_call 12; with_reducible refine (WB.out _).mono ?_; rintro e w1 ⟨rfl, h1⟩; subst h1))
      go_ret
      exact ⟨ret_b (by simp [h2, h4, h6, h8]), rfl⟩
  · have n18 : (b == 18) = false := by simpa using hb18
    have e0 : widR a b = ((rwK a && rwK b || (sgK a && sgK b || usK a && usK b) || usK a && sgK b) && decide (wdK a < wdK b)) := by unfold widR; rw [if_neg hb18]
    rw [e0]
    clear hb18 e0
    generalize rwK a = ra at *
    generalize rwK b = rb at *
    generalize sgK a = sa at *
    generalize sgK b = sb at *
    generalize usK a = ua at *
    generalize usK b = ub at *
    generalize wdK a = wa at *
    generalize wdK b = wb at *
    cases ra <;> cases rb <;> cases sa <;> cases sb <;> cases ua <;> cases ub
    all_goals
      go_enter Try.func5, Try.ntmps5
      go_wp2_with (first | (go_at_call 9; with_reducible refine (RA.out _).mono ?_; rintro e w1 ⟨rfl, h1⟩; subst h1) | (go_at_call 9; with_reducible refine (RB.out _).mono ?_; rintro e w1 ⟨rfl, h1⟩; subst h1) | (go_at_call 10; with_reducible refine (SA.out _).mono ?_; rintro e w1 ⟨rfl, h1⟩; subst h1) | (go_at_call 10; with_reducible refine (SB.out _).mono ?_; rintro e w1 ⟨rfl, h1⟩; subst h1) | (go_at_call 11; with_reducible refine (UA.out _).mono ?_; rintro e w1 ⟨rfl, h1⟩; subst h1) | (go_at_call 11; with_reducible refine (UB.out _).mono ?_; rintro e w1 ⟨rfl, h1⟩; subst h1) | (go_at_call 12; with_reducible refine (WA.out _).mono ?_; rintro e w1 ⟨rfl, h1⟩; subst h1) | (go_at_call 12; with_reducible refine (WB.out _).mono ?_; rintro e w1 ⟨rfl, h1⟩; subst h1))
      go_ret
      exact ⟨ret_b (by simp), rfl⟩
theorem wid_same (a b : Int) : wid a b = widR a b := by
  by_cases ha : a < 2 ∨ 13 < a
  · have r : rwK a = false := by unfold rwK; exact decide_eq_false (by omega)
    have i : itK a = false := by unfold itK; exact decide_eq_false (by omega)
    have g : sgK a = false := by unfold sgK; exact decide_eq_false (by omega)
    have u : usK a = false := by unfold usK; exact decide_eq_false (by omega)
    unfold wid widR
    rw [r, i, g, u]
    by_cases e : b = 18
    · subst e
      rcases ha with h | h
      · rw [decide_eq_false (p := 2 ≤ a) (by omega), decide_eq_false (p := 6 ≤ a) (by omega)]; simp
      · rw [decide_eq_false (p := a ≤ 4) (by omega), decide_eq_false (p := a ≤ 8) (by omega)]; simp
    · simp [e]
  by_cases hb : b < 2 ∨ 13 < b ∧ b ≠ 18
  · have r : rwK b = false := by unfold rwK; exact decide_eq_false (by omega)
    have i : itK b = false := by unfold itK; exact decide_eq_false (by omega)
    have g : sgK b = false := by unfold sgK; exact decide_eq_false (by omega)
    have u : usK b = false := by unfold usK; exact decide_eq_false (by omega)
    unfold wid widR
    rw [r, i, g, u, if_neg (c := b = 18) (by omega), if_neg (c := b = 18) (by omega)]
    simp
  have ea : a = 2 ∨ a = 3 ∨ a = 4 ∨ a = 5 ∨ a = 6 ∨ a = 7 ∨ a = 8 ∨ a = 9 ∨ a = 10 ∨ a = 11 ∨ a = 12 ∨ a = 13 := by omega
  have eb : b = 2 ∨ b = 3 ∨ b = 4 ∨ b = 5 ∨ b = 6 ∨ b = 7 ∨ b = 8 ∨ b = 9 ∨ b = 10 ∨ b = 11 ∨ b = 12 ∨ b = 13 ∨ b = 18 := by omega
  clear ha hb
  rcases ea with rfl | rfl | rfl | rfl | rfl | rfl | rfl | rfl | rfl | rfl | rfl | rfl <;> rcases eb with rfl | rfl | rfl | rfl | rfl | rfl | rfl | rfl | rfl | rfl | rfl | rfl | rfl <;> rfl
end Go.Proofs.Ytbmpncnboanbaaa
