/- What a text says of a time of day: plainly; no statement of the seat is proved here. -/
import Derived.Test.YtpdnlojennhmpaaDoorPqE
import Derived.Test.YtpdnlojennhmpaaDoorPqT
import Derived.Test.YtpdnlojennhmpaaDoorIx
namespace Go.Proofs.YtpdnlojennhmpaaDoor
set_option linter.unusedVariables false
open Go.RowKit
theorem fmL_take (l m : List UInt8) : fmL (l.take m.length) m = true → m.length ≤ l.length := fun h => by
  have := fmL_len _ _ h
  rw [List.length_take] at this
  omega
theorem ck_form (l : List UInt8) : fmL (l.take 8) ckF = (fxP l 0 2 && (fxP l 3 2 && (fxP l 6 2 && (atB l 2 58 && atB l 5 58)))) := by
  by_cases h : 8 ≤ l.length
  · obtain ⟨a0, a1, a2, a3, a4, a5, a6, a7, r, rfl⟩ : ∃ a0 a1 a2 a3 a4 a5 a6 a7 r, l = a0 :: a1 :: a2 :: a3 :: a4 :: a5 :: a6 :: a7 :: r := by
      match l, h with
      | a0 :: a1 :: a2 :: a3 :: a4 :: a5 :: a6 :: a7 :: r, _ => exact ⟨_, _, _, _, _, _, _, _, _, rfl⟩
    have t8 : (a0 :: a1 :: a2 :: a3 :: a4 :: a5 :: a6 :: a7 :: r).take 8 = [a0, a1, a2, a3, a4, a5, a6, a7] := rfl
    rw [t8, Bool.eq_iff_iff]
    simp only [Bool.and_eq_true, fxP_iff, ckF, fmL, fmB, atB, beq_iff_eq, List.length_cons]
    simp only [List.drop_zero, List.drop_succ_cons, List.take_succ_cons, List.take_zero, List.mem_cons, List.not_mem_nil, or_false, forall_eq_or_imp, forall_eq, List.getElem?_cons_succ, List.getElem?_cons_zero, Option.some.injEq, if_true]
    constructor
    · rintro ⟨h0, h1, h2, h3, h4, h5, h6, h7, _⟩
      exact ⟨⟨by omega, h0, h1⟩, ⟨by omega, h3, h4⟩, ⟨by omega, h6, h7⟩, by simpa using h2, by simpa using h5⟩
    · rintro ⟨⟨_, h0, h1⟩, ⟨_, h3, h4⟩, ⟨_, h6, h7⟩, h2, h5⟩
      exact ⟨h0, h1, by simpa using h2, h3, h4, by simpa using h5, h6, h7, trivial⟩
  · have e : fxP l 6 2 = false := by
      unfold fxP
      rw [decide_eq_false (by omega), Bool.false_and]
    rw [e]
    cases q : fmL (l.take 8) ckF with
    | false => simp
    | true => exact absurd (fmL_take l ckF q) h
/-- No dot stands in a clock's form. -/
theorem ck_nodot (l : List UInt8) (h : fmL l ckF = true) : ∀ x ∈ l, ¬ x = 46 := by
  have hl : l.length = 8 := fmL_len _ _ h
  obtain ⟨a0, a1, a2, a3, a4, a5, a6, a7, rfl⟩ : ∃ a0 a1 a2 a3 a4 a5 a6 a7, l = [a0, a1, a2, a3, a4, a5, a6, a7] := by
    match l, hl with
    | [a0, a1, a2, a3, a4, a5, a6, a7], _ => exact ⟨_, _, _, _, _, _, _, _, rfl⟩
  simp [ckF, fmL, fmB] at h
  obtain ⟨h0, h1, h2, h3, h4, h5, h6, h7⟩ := h
  have nd : ∀ c : UInt8, digT c.toNat = true → ¬ c = 46 := fun c hc e => by
    rw [e] at hc
    revert hc
    decide
  intro x hx
  simp only [List.mem_cons, List.not_mem_nil, or_false] at hx
  rcases hx with rfl | rfl | rfl | rfl | rfl | rfl | rfl | rfl
  · exact nd _ h0
  · exact nd _ h1
  · rw [h2]; decide
  · exact nd _ h3
  · exact nd _ h4
  · rw [h5]; decide
  · exact nd _ h6
  · exact nd _ h7
/-- What stands behind the eighth sign: nothing, or a dot and one to nine digits. -/
def ckT (r : List UInt8) : Bool := r.isEmpty || (r.head? == some 46 && (decide (runT digT r.tail = r.tail.length) && (decide (1 ≤ r.tail.length) && decide (r.tail.length ≤ 9))))
def ckOk (l : List UInt8) : Bool := fmL (l.take 8) ckF && (ckT (l.drop 8) && (decide (fxN l 0 2 < 24) && (decide (fxN l 3 2 < 60) && decide (fxN l 6 2 < 60))))
def ckN (l : List UInt8) : Int := fxN l 0 2 * 3600000000000 + fxN l 3 2 * 60000000000 + fxN l 6 2 * 1000000000 + frN 1000000000 (l.drop 9)
theorem run_full (l : List UInt8) (h : runT digT l = l.length) : AllD l := by
  have := run_all digT l
  rw [h, List.take_length] at this
  exact dig_AllD l this
/-- Few digits always say a whole number of nanoseconds. -/
theorem frO_nine (l : List UInt8) (h : l.length ≤ 9) : (frO 1000000000 l).isSome = true := by
  unfold frO
  have e : 1000000000 = 10 ^ l.length * 10 ^ (9 - l.length) := by
    rw [← Nat.pow_add, show l.length + (9 - l.length) = 9 by omega]
  have : 1000000000 * valR l.reverse % 10 ^ l.length = 0 := by
    rw [e, Nat.mul_assoc, Nat.mul_mod_right]
  rw [if_pos this]
  rfl
theorem frN_nine (l : List UInt8) (h : AllD l) (h9 : 1 ≤ l.length ∧ l.length ≤ 9) : 0 ≤ frN 1000000000 l ∧ frN 1000000000 l < 1000000000 := by
  have v := valR_lt l.reverse (fun c hc => h c (List.mem_reverse.mp hc))
  rw [List.length_reverse] at v
  unfold frN frO
  split
  · simp only [Option.getD_some]
    refine ⟨Int.natCast_nonneg _, ?_⟩
    have : 1000000000 * valR l.reverse / 10 ^ l.length < 1000000000 := by
      refine Nat.div_lt_of_lt_mul ?_
      rw [Nat.mul_comm]
      exact Nat.mul_lt_mul_of_pos_right v (by omega)
    exact Int.ofNat_lt.mpr this
  · simp
theorem frN_none : frN 1000000000 [] = 0 := by simp [frN, frO, valR]
/-- Where a byte first stands. -/
theorem idx_no (c : UInt8) : ∀ l : List UInt8, Lib.indexByte l c = -1 → ∀ x ∈ l, ¬ x = c
  | [], _ => by simp
  | b :: l, h => by
    simp only [Lib.indexByte] at h
    split at h
    · omega
    · next q =>
      split at h
      · next g =>
        have ih := idx_no c l (by simpa using g)
        intro x hx
        rcases List.mem_cons.mp hx with rfl | hx
        · simpa using q
        · exact ih x hx
      · have := Lib.indexByte_ge l c
        omega
theorem idx_yes (c : UInt8) : ∀ (l : List UInt8) (j : Nat), Lib.indexByte l c = j → l = l.take j ++ c :: l.drop (j + 1) ∧ (∀ x ∈ l.take j, ¬ x = c) ∧ j < l.length
  | [], j, h => by simp [Lib.indexByte] at h
  | b :: l, j, h => by
    simp only [Lib.indexByte] at h
    split at h
    · next q =>
      have : j = 0 := by omega
      subst this
      have : b = c := by simpa using q
      subst this
      simp
    · next q =>
      split at h
      · omega
      · next g =>
        have q2 : ¬ Lib.indexByte l c = -1 := by simpa using g
        have ge := Lib.indexByte_ge l c
        have j1 : 1 ≤ j := by omega
        obtain ⟨i, rfl⟩ : ∃ i, j = i + 1 := ⟨j - 1, by omega⟩
        obtain ⟨e, hn, hl⟩ := idx_yes c l i (by omega)
        refine ⟨?_, ?_, by simp; omega⟩
        · rw [List.take_succ_cons, List.drop_succ_cons, List.cons_append, ← e]
        · intro x hx
          rw [List.take_succ_cons] at hx
          rcases List.mem_cons.mp hx with rfl | hx
          · simpa using q
          · exact hn x hx
/-- A clock's text, cut at its first dot. -/
theorem ck_cut_no (l : List UInt8) (h : ∀ x ∈ l, ¬ x = 46) : (fmL (l.take 8) ckF && ckT (l.drop 8)) = fmL l ckF := by
  by_cases e : l.length ≤ 8
  · rw [List.take_of_length_le e, List.drop_eq_nil_of_le e]
    simp [ckT]
  · have f : fmL l ckF = false := by
      cases q : fmL l ckF with
      | false => rfl
      | true => have : l.length = 8 := fmL_len _ _ q; omega
    rw [f]
    have : ckT (l.drop 8) = false := by
      cases hd : l.drop 8 with
      | nil => exact absurd (List.drop_eq_nil_iff.mp hd) (by omega)
      | cons a t =>
        have : ¬ a = 46 := h a (List.mem_of_mem_drop (by rw [hd]; exact List.mem_cons_self))
        simp [ckT, this]
    rw [this, Bool.and_false]
theorem ck_cut_at (l : List UInt8) (j : Nat) (e : l = l.take j ++ 46 :: l.drop (j + 1)) (hn : ∀ x ∈ l.take j, ¬ x = 46) (hj : j < l.length) : (fmL (l.take 8) ckF && ckT (l.drop 8)) = (fmL (l.take j) ckF && (decide (runT digT (l.drop (j + 1)) = (l.drop (j + 1)).length) && (decide (1 ≤ (l.drop (j + 1)).length) && decide ((l.drop (j + 1)).length ≤ 9)))) := by
  by_cases j8 : j = 8
  · subst j8
    have d8 : l.drop 8 = 46 :: l.drop 9 := by
      have : (l.take 8 ++ 46 :: l.drop 9).drop 8 = 46 :: l.drop 9 := by
        rw [List.drop_append_of_le_length (by rw [List.length_take]; omega), List.drop_eq_nil_of_le (by rw [List.length_take]; omega)]
        rfl
      rw [← e] at this
      exact this
    rw [d8]
    simp [ckT]
  · have f : fmL (l.take j) ckF = false := by
      cases q : fmL (l.take j) ckF with
      | false => rfl
      | true =>
        have : (l.take j).length = 8 := fmL_len _ _ q
        rw [List.length_take] at this
        omega
    rw [f, Bool.false_and]
    by_cases lt : j < 8
    · have : fmL (l.take 8) ckF = false := by
        cases q : fmL (l.take 8) ckF with
        | false => rfl
        | true =>
          exfalso
          have nd := ck_nodot _ q
          refine nd 46 ?_ rfl
          have g : l[j]? = some 46 := by
            rw [e, List.getElem?_append_right (by rw [List.length_take]; omega), List.length_take, show j - min j l.length = 0 by omega]
            rfl
          have g2 : (l.take 8)[j]? = some 46 := by rw [List.getElem?_take_of_lt lt]; exact g
          exact List.mem_of_getElem? g2
      rw [this, Bool.false_and]
    · have : ckT (l.drop 8) = false := by
        cases hd : l.drop 8 with
        | nil => exact absurd (List.drop_eq_nil_iff.mp hd) (by omega)
        | cons a t =>
          have a8 : l[8]? = some a := by
            have : (l.drop 8)[0]? = some a := by rw [hd]; rfl
            rwa [List.getElem?_drop] at this
          have : ¬ a = 46 := hn a (List.mem_of_getElem? (i := 8) (by rw [List.getElem?_take_of_lt (by omega)]; exact a8))
          simp [ckT, this]
      rw [this, Bool.and_false]
end Go.Proofs.YtpdnlojennhmpaaDoor
