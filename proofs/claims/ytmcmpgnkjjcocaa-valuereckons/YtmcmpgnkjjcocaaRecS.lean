/- What the document's signed and unsigned operations answer; no statement of the seat is proved here. -/
import Derived.Test.YtmcmpgnkjjcocaaRecM
namespace Go.Proofs.Ytmcmpgnkjjcocaa
set_option linter.unusedVariables false
open Go.RowKit
section
variable (a b : Int) (w : World)
set_option maxHeartbeats 1000000 in
theorem sg_add_fine (ha : -9223372036854775808 ≤ a ∧ a < 9223372036854775808) (hb : -9223372036854775808 ≤ b ∧ b < 9223372036854775808) (h : -9223372036854775808 ≤ a + b ∧ a + b < 9223372036854775808) :
    Calls Try.prog 25 #[.int .i64 1, .int .i64 a, .int .i64 b] w fun e w' => e = .returned (.tuple #[.int .i64 (a + b), .int .i64 0]) ∧ w' = w := by
  obtain ⟨ha1, ha2⟩ := ha
  obtain ⟨hb1, hb2⟩ := hb
  obtain ⟨h1, h2⟩ := h
  by_cases a0 : 0 < a
  · by_cases b0 : 0 < b
    all_goals
      go_enter Try.func25, Try.ntmps25
      go_wp2
      go_ret2
      exact ⟨rfl, rfl⟩
  · by_cases a1 : a < 0
    · by_cases b0 : b < 0
      all_goals
        go_enter Try.func25, Try.ntmps25
        go_wp2
        go_ret2
        exact ⟨rfl, rfl⟩
    · go_enter Try.func25, Try.ntmps25
      go_wp2
      go_ret2
      exact ⟨rfl, rfl⟩
set_option maxHeartbeats 1000000 in
theorem sg_add_over (ha : -9223372036854775808 ≤ a ∧ a < 9223372036854775808) (hb : -9223372036854775808 ≤ b ∧ b < 9223372036854775808) (h : ¬ (-9223372036854775808 ≤ a + b ∧ a + b < 9223372036854775808)) :
    Calls Try.prog 25 #[.int .i64 1, .int .i64 a, .int .i64 b] w fun e w' => e = .returned (.tuple #[.int .i64 0, .int .i64 1]) ∧ w' = w := by
  obtain ⟨ha1, ha2⟩ := ha
  obtain ⟨hb1, hb2⟩ := hb
  by_cases c : 0 < a
  · have b0 : 0 < b := by omega
    have s0 : wrap64 (a + b) < 0 := by unfold wrap64; omega
    clear h
    go_enter Try.func25, Try.ntmps25
    go_wp2
    go_ret2
    exact ⟨rfl, rfl⟩
  · have a0 : a < 0 := by omega
    have b0 : b < 0 := by omega
    have s0 : 0 ≤ wrap64 (a + b) := by unfold wrap64; omega
    clear h
    go_enter Try.func25, Try.ntmps25
    go_wp2
    go_ret2
    exact ⟨rfl, rfl⟩
set_option maxHeartbeats 1000000 in
theorem sg_sub_fine (ha : -9223372036854775808 ≤ a ∧ a < 9223372036854775808) (hb : -9223372036854775808 ≤ b ∧ b < 9223372036854775808) (h : -9223372036854775808 ≤ a - b ∧ a - b < 9223372036854775808) :
    Calls Try.prog 25 #[.int .i64 2, .int .i64 a, .int .i64 b] w fun e w' => e = .returned (.tuple #[.int .i64 (a - b), .int .i64 0]) ∧ w' = w := by
  obtain ⟨ha1, ha2⟩ := ha
  obtain ⟨hb1, hb2⟩ := hb
  obtain ⟨h1, h2⟩ := h
  by_cases a0 : 0 ≤ a
  · by_cases b0 : b < 0
    all_goals
      go_enter Try.func25, Try.ntmps25
      go_wp2
      go_ret2
      exact ⟨rfl, rfl⟩
  · by_cases b0 : 0 < b
    all_goals
      go_enter Try.func25, Try.ntmps25
      go_wp2
      go_ret2
      exact ⟨rfl, rfl⟩
set_option maxHeartbeats 1000000 in
theorem sg_sub_over (ha : -9223372036854775808 ≤ a ∧ a < 9223372036854775808) (hb : -9223372036854775808 ≤ b ∧ b < 9223372036854775808) (h : ¬ (-9223372036854775808 ≤ a - b ∧ a - b < 9223372036854775808)) :
    Calls Try.prog 25 #[.int .i64 2, .int .i64 a, .int .i64 b] w fun e w' => e = .returned (.tuple #[.int .i64 0, .int .i64 1]) ∧ w' = w := by
  obtain ⟨ha1, ha2⟩ := ha
  obtain ⟨hb1, hb2⟩ := hb
  by_cases c : 0 ≤ a
  · have b0 : b < 0 := by omega
    have s0 : wrap64 (a - b) < 0 := by unfold wrap64; omega
    clear h
    go_enter Try.func25, Try.ntmps25
    go_wp2
    go_ret2
    exact ⟨rfl, rfl⟩
  · have a0 : a < 0 := by omega
    have b0 : 0 < b := by omega
    have s0 : 0 ≤ wrap64 (a - b) := by unfold wrap64; omega
    clear h
    go_enter Try.func25, Try.ntmps25
    go_wp2
    go_ret2
    exact ⟨rfl, rfl⟩
set_option maxRecDepth 100000 in
set_option maxHeartbeats 1000000 in
theorem sg_mul_zero (h : a = 0 ∨ b = 0) :
    Calls Try.prog 25 #[.int .i64 3, .int .i64 a, .int .i64 b] w fun e w' => e = .returned (.tuple #[.int .i64 0, .int .i64 0]) ∧ w' = w := by
  rcases h with rfl | rfl
  · go_enter Try.func25, Try.ntmps25
    go_wp2
    go_ret2
    exact ⟨rfl, rfl⟩
  · cases c : (a == 0)
    all_goals
      go_enter Try.func25, Try.ntmps25
      go_wp2
      go_ret2
      exact ⟨rfl, rfl⟩
set_option maxRecDepth 100000 in
set_option maxHeartbeats 4000000 in
theorem sg_mul_fine (a0 : (a == 0) = false) (b0 : (b == 0) = false) (s1 : ((a == -1) && (b == -9223372036854775808)) = false) (s2 : ((b == -1) && (a == -9223372036854775808)) = false) (c5 : (wrap64 ((wrap64 (a * b)).tdiv b) != a) = false) :
    Calls Try.prog 25 #[.int .i64 3, .int .i64 a, .int .i64 b] w fun e w' => e = .returned (.tuple #[.int .i64 (wrap64 (a * b)), .int .i64 0]) ∧ w' = w := by
  have b1 : ¬ b = 0 := by simpa using b0
  cases c1 : (a == -1) <;> cases c2 : (b == -9223372036854775808) <;> rw [c1, c2] at s1 <;> first | cases s1 | skip
  all_goals
    try clear s1
    cases c3 : (b == -1) <;> cases c4 : (a == -9223372036854775808) <;> rw [c3, c4] at s2 <;> first | cases s2 | skip
    all_goals
      try clear s2
      go_enter Try.func25, Try.ntmps25
      go_wp2
      go_ret2
      exact ⟨rfl, rfl⟩
set_option maxRecDepth 100000 in
set_option maxHeartbeats 4000000 in
theorem sg_mul_over (a0 : (a == 0) = false) (b0 : (b == 0) = false) (c5 : (((a == -1) && (b == -9223372036854775808)) || ((b == -1) && (a == -9223372036854775808)) || (wrap64 ((wrap64 (a * b)).tdiv b) != a)) = true) :
    Calls Try.prog 25 #[.int .i64 3, .int .i64 a, .int .i64 b] w fun e w' => e = .returned (.tuple #[.int .i64 0, .int .i64 1]) ∧ w' = w := by
  have b1 : ¬ b = 0 := by simpa using b0
  cases c1 : (a == -1) <;> cases c2 : (b == -9223372036854775808) <;> rw [c1, c2] at c5 <;> simp only [Bool.and_false, Bool.and_true, Bool.false_or, Bool.true_or] at c5
  case true.true =>
    go_enter Try.func25, Try.ntmps25
    go_wp2
    go_ret2
    exact ⟨rfl, rfl⟩
  all_goals
    cases c3 : (b == -1) <;> cases c4 : (a == -9223372036854775808) <;> rw [c3, c4] at c5 <;> simp only [Bool.and_false, Bool.and_true, Bool.false_or, Bool.true_or] at c5
    all_goals
      go_enter Try.func25, Try.ntmps25
      go_wp2
      go_ret2
      exact ⟨rfl, rfl⟩
set_option maxRecDepth 100000 in
set_option maxHeartbeats 1000000 in
theorem sg_zero (op : Int) (o : op = 4 ∨ op = 5) :
    Calls Try.prog 25 #[.int .i64 op, .int .i64 a, .int .i64 0] w fun e w' => e = .returned (.tuple #[.int .i64 0, .int .i64 2]) ∧ w' = w := by
  rcases o with rfl | rfl
  all_goals
    go_enter Try.func25, Try.ntmps25
    go_wp2
    go_ret2
    exact ⟨rfl, rfl⟩
set_option maxRecDepth 100000 in
set_option maxHeartbeats 1000000 in
theorem sg_mod_m1 :
    Calls Try.prog 25 #[.int .i64 5, .int .i64 a, .int .i64 (-1)] w fun e w' => e = .returned (.tuple #[.int .i64 0, .int .i64 0]) ∧ w' = w := by
  go_enter Try.func25, Try.ntmps25
  go_wp2
  go_ret2
  exact ⟨rfl, rfl⟩
set_option maxRecDepth 100000 in
set_option maxHeartbeats 1000000 in
theorem sg_div_m1 (ha : -9223372036854775808 ≤ a ∧ a < 9223372036854775808) {r f : Int} (h : ∀ w, Calls Try.prog 25 #[.int .i64 2, .int .i64 0, .int .i64 a] w fun e w' => e = .returned (.tuple #[.int .i64 r, .int .i64 f]) ∧ w' = w) :
    Calls Try.prog 25 #[.int .i64 4, .int .i64 a, .int .i64 (-1)] w fun e w' => e = .returned (.tuple #[.int .i64 r, .int .i64 f]) ∧ w' = w := by
  have H : Hid _ := h
  clear h
  go_enter Try.func25, Try.ntmps25
  go_wp2_with (go_at_call 25; refine (H.out _).mono ?_; rintro e w' ⟨rfl, rfl⟩)
  go_ret2
  exact ⟨rfl, rfl⟩
set_option maxRecDepth 100000 in
set_option maxHeartbeats 1000000 in
theorem sg_div (ha : -9223372036854775808 ≤ a ∧ a < 9223372036854775808) (b0 : (b == 0) = false) (b1 : (b == -1) = false) (d : -9223372036854775808 ≤ a.tdiv b ∧ a.tdiv b < 9223372036854775808) :
    Calls Try.prog 25 #[.int .i64 4, .int .i64 a, .int .i64 b] w fun e w' => e = .returned (.tuple #[.int .i64 (a.tdiv b), .int .i64 0]) ∧ w' = w := by
  have b2 : ¬ b = 0 := by simpa using b0
  have b3 : ¬ b = -1 := by simpa using b1
  have D : Hid (wrap64 (a.tdiv b) = a.tdiv b) := by show _ = _; unfold wrap64; omega
  clear d
  go_enter Try.func25, Try.ntmps25
  go_wp2
  go_ret2
  exact ⟨by first | rfl | (rw [D.out]; rfl), rfl⟩
set_option maxRecDepth 100000 in
set_option maxHeartbeats 1000000 in
theorem sg_mod (ha : -9223372036854775808 ≤ a ∧ a < 9223372036854775808) (b0 : (b == 0) = false) (b1 : (b == -1) = false) (d : -9223372036854775808 ≤ a.tmod b ∧ a.tmod b < 9223372036854775808) :
    Calls Try.prog 25 #[.int .i64 5, .int .i64 a, .int .i64 b] w fun e w' => e = .returned (.tuple #[.int .i64 (a.tmod b), .int .i64 0]) ∧ w' = w := by
  have b2 : ¬ b = 0 := by simpa using b0
  have b3 : ¬ b = -1 := by simpa using b1
  have D : Hid (wrap64 (a.tmod b) = a.tmod b) := by show _ = _; unfold wrap64; omega
  clear d
  go_enter Try.func25, Try.ntmps25
  go_wp2
  go_ret2
  exact ⟨by first | rfl | (rw [D.out]; rfl), rfl⟩
end
/-- What the document's signed operation answers. -/
def sgR (op a b : Int) : Value :=
  if (op = 4 ∨ op = 5) ∧ b = 0 then .tuple #[.int .i64 0, .int .i64 2] else if in64 (opI op a b) then .tuple #[.int .i64 (opI op a b), .int .i64 0] else .tuple #[.int .i64 0, .int .i64 1]
theorem in64_t {n : Int} (h : -9223372036854775808 ≤ n ∧ n < 9223372036854775808) : in64 n = true := by simpa [in64] using h
theorem in64_f {n : Int} (h : ¬ (-9223372036854775808 ≤ n ∧ n < 9223372036854775808)) : in64 n = false := by simpa [in64] using h
theorem signedS_of (op a b : Int) (w : World) (ho : 1 ≤ op ∧ op ≤ 5) (ha : -9223372036854775808 ≤ a ∧ a < 9223372036854775808) (hb : -9223372036854775808 ≤ b ∧ b < 9223372036854775808) :
    Calls Try.prog 25 #[.int .i64 op, .int .i64 a, .int .i64 b] w fun e w' => e = .returned (sgR op a b) ∧ w' = w := by
  have : op = 1 ∨ op = 2 ∨ op = 3 ∨ op = 4 ∨ op = 5 := by omega
  unfold sgR
  rcases this with rfl | rfl | rfl | rfl | rfl
  · rw [if_neg (by omega), show opI 1 a b = a + b from rfl]
    by_cases h : -9223372036854775808 ≤ a + b ∧ a + b < 9223372036854775808
    · rw [in64_t h, if_pos rfl]; exact sg_add_fine a b w ha hb h
    · rw [in64_f h, if_neg (by simp)]; exact sg_add_over a b w ha hb h
  · rw [if_neg (by omega), show opI 2 a b = a - b from rfl]
    by_cases h : -9223372036854775808 ≤ a - b ∧ a - b < 9223372036854775808
    · rw [in64_t h, if_pos rfl]; exact sg_sub_fine a b w ha hb h
    · rw [in64_f h, if_neg (by simp)]; exact sg_sub_over a b w ha hb h
  · rw [if_neg (by omega), show opI 3 a b = a * b from rfl]
    by_cases z : a = 0 ∨ b = 0
    · have e : a * b = 0 := by rcases z with rfl | rfl <;> simp
      rw [e, if_pos (by decide)]
      exact sg_mul_zero a b w z
    have a0 : ¬ a = 0 := fun h => z (.inl h)
    have b0 : ¬ b = 0 := fun h => z (.inr h)
    cases h : in64 (a * b)
    · rw [if_neg (by simp)]
      refine sg_mul_over a b w (by simpa using a0) (by simpa using b0) ?_
      have o := mul_over a b b0 hb h
      by_cases sp : b = -1 ∧ a = -9223372036854775808
      · obtain ⟨rfl, rfl⟩ := sp; decide
      · have e : wrap64 ((wrap64 (a * b)).tdiv b) = (wrap64 (a * b)).tdiv b := by
          have wb := wrap64_bd (a * b)
          by_cases c : b = -1
          · subst c
            rw [tdiv_m1]
            have hl : ¬ wrap64 (a * -1) = -9223372036854775808 := by
              intro q
              apply sp
              refine ⟨rfl, ?_⟩
              unfold wrap64 at q; omega
            generalize wrap64 (a * -1) = p at *
            unfold wrap64; omega
          · have := tdiv_in (wrap64 (a * b)) b wb b0 c
            generalize (wrap64 (a * b)).tdiv b = p at *
            unfold wrap64; omega
        rw [e]
        have : ((wrap64 (a * b)).tdiv b != a) = true := by simpa using o
        rw [this]; simp
    · rw [if_pos rfl]
      obtain ⟨e1, e2⟩ := mul_fine a b b0 h
      obtain ⟨n1, n2⟩ := mul_special a b h
      have := sg_mul_fine a b w (by simpa using a0) (by simpa using b0) (by simpa using n1) (by simpa using n2) (by rw [e2]; have : wrap64 a = a := by unfold wrap64; omega
                                                                                                                    rw [this]; simp)
      rwa [e1] at this
  · by_cases z : b = 0
    · subst z; rw [if_pos (by omega)]; exact sg_zero a w 4 (.inl rfl)
    rw [if_neg (by omega), show opI 4 a b = a.tdiv b from rfl]
    by_cases m : b = -1
    · subst m
      rw [tdiv_m1]
      by_cases h : -9223372036854775808 ≤ -a ∧ -a < 9223372036854775808
      · rw [in64_t h, if_pos rfl]
        refine sg_div_m1 a w ha fun w => ?_
        have := sg_sub_fine 0 a w (by omega) ha (by omega)
        rwa [Int.zero_sub] at this
      · rw [in64_f h, if_neg (by simp)]
        exact sg_div_m1 a w ha fun w => sg_sub_over 0 a w (by omega) ha (by omega)
    · have d := tdiv_in a b ha z m
      rw [in64_t d, if_pos rfl]
      exact sg_div a b w ha (by simpa using z) (by simpa using m) d
  · by_cases z : b = 0
    · subst z; rw [if_pos (by omega)]; exact sg_zero a w 5 (.inr rfl)
    rw [if_neg (by omega), show opI 5 a b = a.tmod b from rfl]
    by_cases m : b = -1
    · subst m
      rw [tmod_m1, if_pos (by decide)]
      exact sg_mod_m1 a w
    · have d := tmod_in a b ha z
      rw [in64_t d, if_pos rfl]
      exact sg_mod a b w ha (by simpa using z) (by simpa using m) d
end Go.Proofs.Ytmcmpgnkjjcocaa
