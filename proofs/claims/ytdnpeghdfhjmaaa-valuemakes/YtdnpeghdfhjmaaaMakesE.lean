/- What both Floats answer, for every value; no statement of the seat is proved here. -/
import Derived.Test.YtdnpeghdfhjmaaaMakesD
import Derived.Test.YtdnpeghdfhjmaaaFitR
namespace Go.Proofs.Ytdnpeghdfhjmaaa
set_option linter.unusedVariables false
open Go.RowKit
/-- The nearest word to a number below 0 is the other sign's of its size. -/
theorem cut_even (a b : Bool) (n d : Nat) : Ieee.Toward.even.cut a n d = Ieee.Toward.even.cut b n d := rfl
theorem weight_f64 : FloatKind.f64.format.signWeight = 9223372036854775808 := by
  show 2 ^ (11 + 52) = 9223372036854775808
  decide
theorem inf_f64 : FloatKind.f64.format.infRung = 9218868437227405312 := by
  show (2 ^ 11 - 1) * 2 ^ 52 = 9218868437227405312
  decide
/-- The rung of a number's size. -/
def rungN (m : Nat) : Nat :=
  min (((max ((0 : Int) + m.log2 - FloatKind.f64.format.fractionBits) FloatKind.f64.format.leastPlace) - FloatKind.f64.format.leastPlace).toNat * FloatKind.f64.format.binade +
    Ieee.Toward.even.cut false (m <<< ((0 : Int) - (max ((0 : Int) + m.log2 - FloatKind.f64.format.fractionBits) FloatKind.f64.format.leastPlace)).toNat) ((max ((0 : Int) + m.log2 - FloatKind.f64.format.fractionBits) FloatKind.f64.format.leastPlace) - 0).toNat) FloatKind.f64.format.infRung
theorem nearest_word (neg : Bool) (m : Nat) (h : ¬ m = 0) : FloatKind.f64.format.nearest neg m 0 = FloatKind.f64.format.word neg (rungN m) := by
  unfold Ieee.Format.nearest rungN
  rw [if_neg h]
  dsimp only
  rw [cut_even neg false]
theorem rungN_le (m : Nat) : rungN m ≤ FloatKind.f64.format.infRung := Nat.min_le_right _ _
theorem nearest_sign (m : Nat) (h : 0 < m) : FloatKind.f64.format.nearest true m 0 = 9223372036854775808 + FloatKind.f64.format.nearest false m 0 := by
  rw [nearest_word true m (by omega), nearest_word false m (by omega)]
  generalize rungN m = r
  simp only [Ieee.Format.word, weight_f64, if_true, Bool.false_eq_true, if_false]
theorem nearest_lt (m : Nat) (h : 0 < m) : FloatKind.f64.format.nearest false m 0 < 9223372036854775808 := by
  rw [nearest_word false m (by omega)]
  have := rungN_le m
  rw [inf_f64] at this
  generalize rungN m = r at *
  simp only [Ieee.Format.word, Bool.false_eq_true, if_false]
  omega
theorem xor_top (r : Nat) (h : r < 9223372036854775808) : r ^^^ 9223372036854775808 = 9223372036854775808 + r := by
  have : (2 ^ 63 ^^^ r : Nat) = 2 ^ 63 + r := by
    have := Nat.two_pow_add_eq_or_of_lt (i := 63) (b := r) (by simpa using h) 1
    rw [Nat.mul_one] at this
    rw [this]
    apply Nat.eq_of_testBit_eq
    intro i
    rw [Nat.testBit_xor, Nat.testBit_or, Nat.testBit_two_pow]
    by_cases c : 63 = i
    · subst c
      have : r.testBit 63 = false := Nat.testBit_lt_two_pow (by simpa using h)
      simp [this]
    · simp [c]
  rw [Nat.xor_comm]
  exact this
theorem float_neg (n : Int) (h : n < 0) : Op.negFloat .f64 (floatOfInt .f64 (n.natAbs : Int)) = floatOfInt .f64 n := by
  show (FloatKind.f64.format.nearest (decide ((n.natAbs : Int) < 0)) (n.natAbs : Int).natAbs 0) ^^^ 9223372036854775808 = FloatKind.f64.format.nearest (decide (n < 0)) n.natAbs 0
  have e1 : decide ((n.natAbs : Int) < 0) = false := by simp
  have e2 : decide (n < 0) = true := by simpa using h
  rw [e1, e2, Int.natAbs_natCast, nearest_sign _ (by omega), xor_top _ (nearest_lt _ (by omega))]
/-- A value's float. -/
def fltR (k b : Int) (s : ByteArray) : Value :=
  if may3 k b s = false then .tuple #[.float .f64 0, .bool false] else if k = 18 then .tuple #[.float .f64 b.toNat, .bool true]
  else if 2 ≤ k ∧ k ≤ 9 then .tuple #[.float .f64 (floatOfInt .f64 (num k b)), .bool true] else .tuple #[.float .f64 0, .bool false]
set_option maxHeartbeats 400000 in
theorem nearest_of (n : Int) (w : World) : Calls Try.prog 44 #[NB n] w fun e w' => e = .returned (.float .f64 (floatOfInt .f64 n)) ∧ Below w.heap.size w w' := by
  by_cases h : n < 0
  · rw [NB_raw_neg h, ← float_neg n h]
    have hn : ∀ (m : Nat) w, (Op.unary UnOp.neg (.float .f64 m)).run Try.prog w = .ok (.float .f64 (Op.negFloat .f64 m)) w := fun _ _ => rfl
    go_enter Try.func44, Try.ntmps44
    go_wp2
    go_ret
    exact ⟨rfl, (Below.refl _ _).alloc (Nat.le_refl _) _⟩
  · rw [NB_raw_pos (by omega)]
    go_enter Try.func44, Try.ntmps44
    go_wp2
    go_ret
    exact ⟨rfl, (Below.refl _ _).alloc (Nat.le_refl _) _⟩
section
variable (k b : Int) (s : ByteArray) (w : World)
set_option maxHeartbeats 1000000 in
theorem Float_of (h0 : 0 ≤ b) (h1 : b < 18446744073709551616) (hk : 0 ≤ k ∧ k < 256) (hs : s.size ≤ maxLen) : Calls Try.prog 18 #[V k b s] w fun e w' => e = .returned (fltR k b s) ∧ Below w.heap.size w w' := by
  have hx := call_frombits
  unfold fltR
  cases c : may3 k b s
  · rw [if_pos rfl]
    go_enter Try.func18, Try.ntmps18
    go_wp2_with (first | (go_at_call 22; refine (May_of _ _ _ _ h0 h1 hk hs).mono ?_; rintro e w1 ⟨rfl, hb⟩; obtain ⟨hc, hf⟩ := bcell hb; have hz := below_lt1 hb))
    go_ret2
    exact ⟨rfl, ((Below.refl _ _).alloc (Nat.le_refl _) _).trans (hb.mono (by simp))⟩
  rw [if_neg (by simp)]
  by_cases e18 : k = 18
  · subst e18
    rw [if_pos rfl]
    go_enter Try.func18, Try.ntmps18
    go_wp2_with (first | (go_at_call 22; refine (May_of _ _ _ _ h0 h1 hk hs).mono ?_; rintro e w1 ⟨rfl, hb⟩; obtain ⟨hc, hf⟩ := bcell hb; have hz := below_lt1 hb))
    go_ret2
    exact ⟨rfl, ((Below.refl _ _).alloc (Nat.le_refl _) _).trans (hb.mono (by simp))⟩
  rw [if_neg e18]
  have e18' : (k == 18) = false := by simpa using e18
  by_cases i : 2 ≤ k ∧ k ≤ 9
  · rw [if_pos i]
    have I : Hid (2 ≤ k ∧ k ≤ 9) := i
    clear i e18
    go_enter Try.func18, Try.ntmps18
    go_wp2_with (first | (go_at_call 22; refine (May_of _ _ _ _ h0 h1 hk hs).mono ?_; rintro e w1 ⟨rfl, hb⟩; obtain ⟨hc, hf⟩ := bcell hb; have hz := below_lt1 hb) | (go_at_call 43; refine (isInteger_of _ _ true (by symm; simpa using I.out)).mono ?_; rintro e w' ⟨rfl, rfl⟩) | (go_at_call 40; refine (numberOf_of _ _ _ _ h0 h1).mono ?_; rintro e w2 ⟨rfl, hb2⟩; obtain ⟨hc2, hf2⟩ := bcell hb2) | (go_at_call 44; refine (nearest_of _ _).mono ?_; rintro e w3 ⟨rfl, hb3⟩))
    go_ret2
    refine ⟨rfl, ?_⟩
    have B1 : Below w.heap.size w _ := ((Below.refl _ _).alloc (Nat.le_refl _) _).trans (hb.mono (by simp))
    have hs2 := hb2.size
    exact (B1.trans (hb2.mono (Nat.le_of_lt hz))).trans (hb3.mono (by omega))
  · rw [if_neg i]
    have I : Hid (¬ (2 ≤ k ∧ k ≤ 9)) := i
    clear i e18
    go_enter Try.func18, Try.ntmps18
    go_wp2_with (first | (go_at_call 22; refine (May_of _ _ _ _ h0 h1 hk hs).mono ?_; rintro e w1 ⟨rfl, hb⟩; obtain ⟨hc, hf⟩ := bcell hb; have hz := below_lt1 hb) | (go_at_call 43; refine (isInteger_of _ _ false (by symm; simpa using I.out)).mono ?_; rintro e w' ⟨rfl, rfl⟩))
    go_ret2
    exact ⟨rfl, ((Below.refl _ _).alloc (Nat.le_refl _) _).trans (hb.mono (by simp))⟩
set_option maxHeartbeats 2000000 in
theorem FloatR_of (h0 : 0 ≤ b) (h1 : b < 18446744073709551616) (hk : 0 ≤ k ∧ k < 256) (hs : s.size ≤ maxLen) : Calls Try.prog 19 #[V k b s] w fun e w' => e = .returned (fltR k b s) ∧ Below w.heap.size w w' := by
  have hx := call_frombits
  unfold fltR
  cases c : may3 k b s
  · rw [if_pos rfl]
    go_enter Try.func19, Try.ntmps19
    go_wp2_with (first | (go_at_call 23; refine (MayR_of _ _ _ _ h0 h1 hk hs).mono ?_; rintro e w1 ⟨rfl, hb⟩; obtain ⟨hc, hf⟩ := bcell hb; have hz := below_lt1 hb))
    go_ret2
    exact ⟨rfl, ((Below.refl _ _).alloc (Nat.le_refl _) _).trans (hb.mono (by simp))⟩
  rw [if_neg (by simp)]
  by_cases e18 : k = 18
  · subst e18
    rw [if_pos rfl]
    go_enter Try.func19, Try.ntmps19
    go_wp2_with (first | (go_at_call 23; refine (MayR_of _ _ _ _ h0 h1 hk hs).mono ?_; rintro e w1 ⟨rfl, hb⟩; obtain ⟨hc, hf⟩ := bcell hb; have hz := below_lt1 hb))
    go_ret2
    exact ⟨rfl, ((Below.refl _ _).alloc (Nat.le_refl _) _).trans (hb.mono (by simp))⟩
  rw [if_neg e18]
  have e18' : (k == 18) = false := by simpa using e18
  clear e18
  by_cases i : 2 ≤ k
  · by_cases j : k ≤ 5
    · rw [if_pos (by omega), num_s (by omega)]
      go_enter Try.func19, Try.ntmps19
      go_wp2_with (first | (go_at_call 23; refine (MayR_of _ _ _ _ h0 h1 hk hs).mono ?_; rintro e w1 ⟨rfl, hb⟩; obtain ⟨hc, hf⟩ := bcell hb; have hz := below_lt1 hb) | go_in)
      go_ret2
      exact ⟨rfl, ((Below.refl _ _).alloc (Nat.le_refl _) _).trans (hb.mono (by simp))⟩
    · by_cases l : k ≤ 9
      · rw [if_pos (by omega), num_u (by omega)]
        go_enter Try.func19, Try.ntmps19
        go_wp2_with (first | (go_at_call 23; refine (MayR_of _ _ _ _ h0 h1 hk hs).mono ?_; rintro e w1 ⟨rfl, hb⟩; obtain ⟨hc, hf⟩ := bcell hb; have hz := below_lt1 hb) | go_in)
        go_ret2
        exact ⟨rfl, ((Below.refl _ _).alloc (Nat.le_refl _) _).trans (hb.mono (by simp))⟩
      · rw [if_neg (by omega)]
        go_enter Try.func19, Try.ntmps19
        go_wp2_with (first | (go_at_call 23; refine (MayR_of _ _ _ _ h0 h1 hk hs).mono ?_; rintro e w1 ⟨rfl, hb⟩; obtain ⟨hc, hf⟩ := bcell hb; have hz := below_lt1 hb) | go_in)
        go_ret2
        exact ⟨rfl, ((Below.refl _ _).alloc (Nat.le_refl _) _).trans (hb.mono (by simp))⟩
  · rw [if_neg (by omega)]
    go_enter Try.func19, Try.ntmps19
    go_wp2_with (first | (go_at_call 23; refine (MayR_of _ _ _ _ h0 h1 hk hs).mono ?_; rintro e w1 ⟨rfl, hb⟩; obtain ⟨hc, hf⟩ := bcell hb; have hz := below_lt1 hb) | go_in)
    go_ret2
    exact ⟨rfl, ((Below.refl _ _).alloc (Nat.le_refl _) _).trans (hb.mono (by simp))⟩
end
end Go.Proofs.Ytdnpeghdfhjmaaa
