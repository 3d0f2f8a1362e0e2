/- IsAddr on the document's side; no statement of the seat is proved here. -/
import Derived.Test.YtpcjnhffpkpchaaGreatLexHY
namespace Go.Proofs.YtpcjnhffpkpchaaGreat
set_option linter.unusedVariables false
open Go.RowKit
theorem bitN_5 (c : Int) (h : bitN c ≠ 0) : c = 88 ∨ c = 66 ∨ c = 87 ∨ c = 68 ∨ c = 76 := by
  rcases bit6 c with q | q | q | q | q | q
  · exact Or.inl q
  · exact Or.inr (Or.inl q)
  · exact Or.inr (Or.inr (Or.inl q))
  · exact Or.inr (Or.inr (Or.inr (Or.inl q)))
  · exact Or.inr (Or.inr (Or.inr (Or.inr q)))
  · exact absurd (bitN_none c q) h
theorem tailR_adR (s : ByteArray) (hC : capS s = s) (c0 : byt s 0 = 37) (c1 : areaB (byt s 1) = true) (c2 : bitN (byt s 2) ≠ 0) : tailR s (byt s 2) (digN s) = adR s := by
  have e1 := capU_of_capS s hC 1
  have e2 := capU_of_capS s hC 2
  have T := adE_tail s c0 (by rw [e1]; exact c1) (by rw [e2]; exact c2)
  unfold adR
  simp only [nI_t]
  rw [T]
  unfold tailE tailR
  rw [e2]
  have b5 := bitN_5 _ c2
  have k : (byt s 2 = 88 ∧ bitN (byt s 2) = 1) ∨ (byt s 2 ≠ 88 ∧ 1 < bitN (byt s 2)) := by
    rcases b5 with q | q | q | q | q <;> rw [q] <;> decide
  generalize bitN (byt s 2) = b at *
  generalize digN s = d at *
  simp only [show 4 + d = 3 + d + 1 by omega] at *
  rcases k with ⟨k1, k2⟩ | ⟨k1, k2⟩
  · rw [k1, k2]
    by_cases h1 : 1 ≤ d ∧ d ≤ 4 ∧ ¬ (1 < d ∧ byt s 3 = 48)
    · simp only [if_pos h1, if_true, if_neg (show ¬ (1 : Int) < 1 by omega)]
      by_cases h2 : byt s (3 + d) = 46 ∧ 48 ≤ byt s (3 + d + 1) ∧ byt s (3 + d + 1) ≤ 55
      · simp only [if_pos h2]
        rw [show ((5 : Int) + (d : Int)).toNat = 3 + d + 2 by omega]
        repeat' split
        all_goals omega
      · simp only [if_neg h2]
        rfl
    · simp only [if_neg h1]
      rfl
  · by_cases h1 : 1 ≤ d ∧ d ≤ 4 ∧ ¬ (1 < d ∧ byt s 3 = 48)
    · simp only [if_pos h1, if_pos k2, if_neg k1]
      rw [show ((3 : Int) + (d : Int)).toNat = 3 + d by omega]
      repeat' split
      all_goals omega
    · simp only [if_neg h1]
      rfl
theorem addressR_of (s : ByteArray) (w : World) (hs : s.size ≤ maxLen) (hC : capS s = s) (c0 : byt s 0 = 37) : Calls Tryz.prog 97 #[.string s, .int .i64 0] w fun e w' => e = .returned (.int .i64 (adR s)) ∧ Below w.heap.size w w' := by
  rcases Nat.lt_or_ge 3 s.size with hz | hz
  · have P : capS (s.extract 0 3) = s.extract 0 3 := cap_ext s _ (ext3_mem s) hC
    have ps := ext3_size s (by omega)
    have p1 := ext3_at s (by omega) 1 (by omega)
    have p2 := ext3_at s (by omega) 2 (by omega)
    rw [byt_in _ _ (by omega)] at p1 p2
    have pm : (s.extract 0 3).size ≤ maxLen := by unfold maxLen; omega
    cases c1 : areaB (byt s 1)
    · rw [adR_no s (by rw [capU_of_capS s hC]; exact Or.inl c1)]
      exact addressR_no s _ w hz rfl P ps pm (Or.inl (by rw [p1]; exact c1))
    · by_cases c2 : bitN (byt s 2) = 0
      · rw [adR_no s (by rw [capU_of_capS s hC, capU_of_capS s hC]; exact Or.inr c2)]
        exact addressR_no s _ w hz rfl P ps pm (Or.inr (by rw [p2]; exact c2))
      · refine addressR_yes s _ w hs hz rfl P ps pm (by rw [p1]; exact (area3 _).1 c1) (by rw [p2]; exact bitN_5 _ c2) _ ?_
        show _ = _
        rw [p2]
        exact tailR_adR s hC c0 c1 c2
  · exact addressR_small s w hs hC hz
theorem bits_sw (s : ByteArray) (h : bitN (byt s 2) ≠ 0) : (byt s 2 = 88 ∧ bitN (byt s 2) = 1) ∨ (byt s 2 = 66 ∧ bitN (byt s 2) = 8) ∨ (byt s 2 = 87 ∧ bitN (byt s 2) = 16) ∨ (byt s 2 = 68 ∧ bitN (byt s 2) = 32) ∨ (byt s 2 = 76 ∧ bitN (byt s 2) = 64) := by
  rcases bitN_5 _ h with q | q | q | q | q <;> rw [q] <;> decide
theorem dir_sw (s : ByteArray) : (byt s 1 = 73 ∧ dirN (byt s 1) = 1) ∨ (byt s 1 = 81 ∧ dirN (byt s 1) = 2) ∨ ((byt s 1 ≠ 73 ∧ byt s 1 ≠ 81) ∧ dirN (byt s 1) = 0) := by
  rcases dir3 (byt s 1) with q | q | q
  · exact Or.inl ⟨q, by rw [q]; rfl⟩
  · exact Or.inr (Or.inl ⟨q, by rw [q]; rfl⟩)
  · exact Or.inr (Or.inr ⟨q, dirN_no _ q⟩)
theorem text_some (s : ByteArray) (hz : 0 < s.size) : (s.toList == []) = false := by
  rw [beq_eq_false_iff_ne, ByteArray.toList_eq]
  intro q
  have : s.data.toList.length = 0 := by rw [q]; rfl
  rw [Array.length_toList] at this
  have e : s.data.size = s.size := rfl
  omega
set_option maxHeartbeats 2000000 in
theorem IsAddrR_yes (s : ByteArray) (w : World) (hs : s.size ≤ maxLen) (hE : adE s = s.size) (hC : capS s = s) : Calls Tryz.prog 73 #[.string s] w fun e w' => e = .returned (addrV s) ∧ Below w.heap.size w w' := by
  obtain ⟨e0, e1, e2, hz⟩ := adE_ok s hE
  rw [addrV_yes s hE hC]
  have A : Hid (adR s = s.size) := (adR_iff s).2 hE
  have U : Hid (∀ w, Calls Tryz.prog 97 #[.string s, .int .i64 0] w fun e w' => e = .returned (.int .i64 (adR s)) ∧ Below w.heap.size w w') := fun w => addressR_of s w hs hC e0
  rw [capU_of_capS s hC] at e2
  have C : Hid (capS s = s) := hC
  have b0 := byt_in s 0 (Nat.lt_of_lt_of_le (by decide) hz)
  have b1 := byt_in s 1 (Nat.lt_of_lt_of_le (by decide) hz)
  have b2 := byt_in s 2 (Nat.lt_of_lt_of_le (by decide) hz)
  have x2 := bits_sw s e2
  have x1 := dir_sw s
  rw [b1] at x1
  rw [b2] at x2
  rw [b0] at e0
  rw [b1, b2]
  have hm : s.size ≤ 9223372036854775807 := hs
  have g := text_some s (Nat.lt_of_lt_of_le (by decide) hz)
  clear e1 e2 hE hC b0 b1 b2
  rcases x1 with ⟨q, q'⟩ | ⟨q, q'⟩ | ⟨⟨q, q''⟩, q'⟩ <;> rcases x2 with ⟨z, z'⟩ | ⟨z, z'⟩ | ⟨z, z'⟩ | ⟨z, z'⟩ | ⟨z, z'⟩
  all_goals
    rw [q', z']
    clear q' z'
    go_enter Tryz.func73, Tryz.ntmps73
    go_wp2_with (first
      | (go_at_call 96; refine (Upper_of s _ hs).mono ?_; rintro e w1 ⟨rfl, hB⟩; rw [C.out])
      | (go_at_call 97; refine (U.out _).mono ?_; rintro e w2 ⟨rfl, hB2⟩; rw [A.out]))
    go_returns
    exact ⟨rfl, Below.trans hB (hB2.mono hB.size)⟩
set_option maxHeartbeats 2000000 in
theorem IsAddrR_of (s : ByteArray) (w : World) (hs : s.size ≤ maxLen) : Calls Tryz.prog 73 #[.string s] w fun e w' => e = .returned (addrV s) ∧ Below w.heap.size w w' := by
  by_cases hC : capS s = s
  · by_cases hE : adE s = s.size
    · exact IsAddrR_yes s w hs hE hC
    · rw [addrV_no s (Or.inl hE)]
      have f : (adR s == (s.size : Int)) = false := by
        have : ¬ adR s = s.size := fun q => hE ((adR_iff s).1 q)
        simpa using this
      have C : Hid (capS s = s) := hC
      clear hE
      rcases Nat.lt_or_ge 0 s.size with hz | hz
      · have b0 := byt_in s 0 hz
        have g := text_some s hz
        by_cases e0 : byt s 0 = 37
        · have U : Hid (∀ w, Calls Tryz.prog 97 #[.string s, .int .i64 0] w fun e w' => e = .returned (.int .i64 (adR s)) ∧ Below w.heap.size w w') := fun w => addressR_of s w hs hC e0
          rw [b0] at e0
          clear b0 hC
          go_enter Tryz.func73, Tryz.ntmps73
          go_wp2_with (first
            | (go_at_call 96; refine (Upper_of s _ hs).mono ?_; rintro e w1 ⟨rfl, hB⟩; rw [C.out])
            | (go_at_call 97; refine (U.out _).mono ?_; rintro e w2 ⟨rfl, hB2⟩))
          go_returns
          exact ⟨rfl, Below.trans hB (hB2.mono hB.size)⟩
        · rw [b0] at e0
          clear b0 hC
          go_enter Tryz.func73, Tryz.ntmps73
          go_wp2
          go_returns
          exact ⟨rfl, Below.refl _ _⟩
      · have e : s = ⟨#[]⟩ := by
          cases s with
          | mk d =>
            have : d.size = 0 := Nat.le_zero.1 hz
            rw [Array.size_eq_zero_iff.1 this]
        subst e
        clear hC f C
        go_enter Tryz.func73, Tryz.ntmps73
        go_wp2
        go_returns
        exact ⟨rfl, Below.refl _ _⟩
  · rw [addrV_no s (Or.inr hC)]
    have f := text_ne hC
    rcases Nat.lt_or_ge 0 s.size with hz | hz
    · have g := text_some s hz
      clear hC
      go_enter Tryz.func73, Tryz.ntmps73
      go_wp2_with (go_at_call 96; refine (Upper_of s _ hs).mono ?_; rintro e w1 ⟨rfl, hB⟩)
      all_goals
        go_returns
        first
        | exact ⟨rfl, hB⟩
        | exact ⟨rfl, Below.refl _ _⟩
    · exfalso
      refine hC ?_
      cases s with
      | mk d =>
        have : d.size = 0 := Nat.le_zero.1 hz
        rw [Array.size_eq_zero_iff.1 this]
        rfl
end Go.Proofs.YtpcjnhffpkpchaaGreat
