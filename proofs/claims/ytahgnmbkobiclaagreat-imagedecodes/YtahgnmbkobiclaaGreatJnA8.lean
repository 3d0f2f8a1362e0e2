/- Two images compared by the statements' own sameness; no statement of the seat is proved here. -/
import Derived.Test.YtahgnmbkobiclaaGreatLexHJ
import Derived.Test.YtahgnmbkobiclaaGreatNumRJ
import Derived.Test.YtahgnmbkobiclaaGreatJnA7
namespace Go.Proofs.YtahgnmbkobiclaaGreat
set_option linter.unusedVariables false
open Go.RowKit
theorem bitN_5 (c : Int) (h : bitN c ≠ 0) : c = 88 ∨ c = 66 ∨ c = 87 ∨ c = 68 ∨ c = 76 := by
  rcases bit6 c with q | q | q | q | q | q
  · exact Or.inl q
  · exact Or.inr (Or.inl q)
  · exact Or.inr (Or.inr (Or.inl q))
  · exact Or.inr (Or.inr (Or.inr (Or.inl q)))
  · exact Or.inr (Or.inr (Or.inr (Or.inr q)))
  · exact absurd (bitN_none c q) h
theorem tailR_adR (s : ByteArray) (hC : capS s = s) (c0 : byt s 0 = 37) (c1 : areaB (byt s 1) = true) (c2 : bitN (byt s 2) ≠ 0) : tailR s (byt s 2) (digN s) = adR s := by
  have e1 := capU_of_capS s hC 1
  have e2 := capU_of_capS s hC 2
  have T := adE_tail s c0 (by rw [e1]; exact c1) (by rw [e2]; exact c2)
  unfold adR
  simp only [nI_t]
  rw [T]
  unfold tailE tailR
  rw [e2]
  have b5 := bitN_5 _ c2
  have k : (byt s 2 = 88 ∧ bitN (byt s 2) = 1) ∨ (byt s 2 ≠ 88 ∧ 1 < bitN (byt s 2)) := by
    rcases b5 with q | q | q | q | q <;> rw [q] <;> decide
  generalize bitN (byt s 2) = b at *
  generalize digN s = d at *
  simp only [show 4 + d = 3 + d + 1 by omega] at *
  rcases k with ⟨k1, k2⟩ | ⟨k1, k2⟩
  · rw [k1, k2]
    by_cases h1 : 1 ≤ d ∧ d ≤ 4 ∧ ¬ (1 < d ∧ byt s 3 = 48)
    · simp only [if_pos h1, if_true, if_neg (show ¬ (1 : Int) < 1 by omega)]
      by_cases h2 : byt s (3 + d) = 46 ∧ 48 ≤ byt s (3 + d + 1) ∧ byt s (3 + d + 1) ≤ 55
      · simp only [if_pos h2]
        rw [show ((5 : Int) + (d : Int)).toNat = 3 + d + 2 by omega]
        repeat' split
        all_goals omega
      · simp only [if_neg h2]
        rfl
    · simp only [if_neg h1]
      rfl
  · by_cases h1 : 1 ≤ d ∧ d ≤ 4 ∧ ¬ (1 < d ∧ byt s 3 = 48)
    · simp only [if_pos h1, if_pos k2, if_neg k1]
      rw [show ((3 : Int) + (d : Int)).toNat = 3 + d by omega]
      repeat' split
      all_goals omega
    · simp only [if_neg h1]
      rfl
theorem addressR_of (s : ByteArray) (w : World) (hs : s.size ≤ maxLen) (hC : capS s = s) (c0 : byt s 0 = 37) : Calls Tryz.prog 112 #[.string s, .int .i64 0] w fun e w' => e = .returned (.int .i64 (adR s)) ∧ Below w.heap.size w w' := by
  rcases Nat.lt_or_ge 3 s.size with hz | hz
  · have P : capS (s.extract 0 3) = s.extract 0 3 := cap_ext s _ (ext3_mem s) hC
    have ps := ext3_size s (by omega)
    have p1 := ext3_at s (by omega) 1 (by omega)
    have p2 := ext3_at s (by omega) 2 (by omega)
    rw [byt_in _ _ (by omega)] at p1 p2
    have pm : (s.extract 0 3).size ≤ maxLen := by unfold maxLen; omega
    cases c1 : areaB (byt s 1)
    · rw [adR_no s (by rw [capU_of_capS s hC]; exact Or.inl c1)]
      exact addressR_no s _ w hz rfl P ps pm (Or.inl (by rw [p1]; exact c1))
    · by_cases c2 : bitN (byt s 2) = 0
      · rw [adR_no s (by rw [capU_of_capS s hC, capU_of_capS s hC]; exact Or.inr c2)]
        exact addressR_no s _ w hz rfl P ps pm (Or.inr (by rw [p2]; exact c2))
      · refine addressR_yes s _ w hs hz rfl P ps pm (by rw [p1]; exact (area3 _).1 c1) (by rw [p2]; exact bitN_5 _ c2) _ ?_
        show _ = _
        rw [p2]
        exact tailR_adR s hC c0 c1 c2
  · exact addressR_small s w hs hC hz
theorem bits_sw (s : ByteArray) (h : bitN (byt s 2) ≠ 0) : (byt s 2 = 88 ∧ bitN (byt s 2) = 1) ∨ (byt s 2 = 66 ∧ bitN (byt s 2) = 8) ∨ (byt s 2 = 87 ∧ bitN (byt s 2) = 16) ∨ (byt s 2 = 68 ∧ bitN (byt s 2) = 32) ∨ (byt s 2 = 76 ∧ bitN (byt s 2) = 64) := by
  rcases bitN_5 _ h with q | q | q | q | q <;> rw [q] <;> decide
theorem dir_sw (s : ByteArray) : (byt s 1 = 73 ∧ dirN (byt s 1) = 1) ∨ (byt s 1 = 81 ∧ dirN (byt s 1) = 2) ∨ ((byt s 1 ≠ 73 ∧ byt s 1 ≠ 81) ∧ dirN (byt s 1) = 0) := by
  rcases dir3 (byt s 1) with q | q | q
  · exact Or.inl ⟨q, by rw [q]; rfl⟩
  · exact Or.inr (Or.inl ⟨q, by rw [q]; rfl⟩)
  · exact Or.inr (Or.inr ⟨q, dirN_no _ q⟩)
theorem text_some (s : ByteArray) (hz : 0 < s.size) : (s.toList == []) = false := by
  rw [beq_eq_false_iff_ne, ByteArray.toList_eq]
  intro q
  have : s.data.toList.length = 0 := by rw [q]; rfl
  rw [Array.length_toList] at this
  have e : s.data.size = s.size := rfl
  omega
set_option maxHeartbeats 2000000 in
theorem IsAddrR_yes (s : ByteArray) (w : World) (hs : s.size ≤ maxLen) (hE : adE s = s.size) (hC : capS s = s) : Calls Tryz.prog 69 #[.string s] w fun e w' => e = .returned (addrV s) ∧ Below w.heap.size w w' := by
  obtain ⟨e0, e1, e2, hz⟩ := adE_ok s hE
  rw [addrV_yes s hE hC]
  have A : Hid (adR s = s.size) := (adR_iff s).2 hE
  have U : Hid (∀ w, Calls Tryz.prog 112 #[.string s, .int .i64 0] w fun e w' => e = .returned (.int .i64 (adR s)) ∧ Below w.heap.size w w') := fun w => addressR_of s w hs hC e0
  rw [capU_of_capS s hC] at e2
  have C : Hid (capS s = s) := hC
  have b0 := byt_in s 0 (Nat.lt_of_lt_of_le (by decide) hz)
  have b1 := byt_in s 1 (Nat.lt_of_lt_of_le (by decide) hz)
  have b2 := byt_in s 2 (Nat.lt_of_lt_of_le (by decide) hz)
  have x2 := bits_sw s e2
  have x1 := dir_sw s
  rw [b1] at x1
  rw [b2] at x2
  rw [b0] at e0
  rw [b1, b2]
  have hm : s.size ≤ 9223372036854775807 := hs
  have g := text_some s (Nat.lt_of_lt_of_le (by decide) hz)
  clear e1 e2 hE hC b0 b1 b2
  rcases x1 with ⟨q, q'⟩ | ⟨q, q'⟩ | ⟨⟨q, q''⟩, q'⟩ <;> rcases x2 with ⟨z, z'⟩ | ⟨z, z'⟩ | ⟨z, z'⟩ | ⟨z, z'⟩ | ⟨z, z'⟩
  all_goals
    rw [q', z']
    clear q' z'
    go_enter Tryz.func69, Tryz.ntmps69
    go_wp2_with (first
      | (go_at_call 111; refine (Upper_of s _ hs).mono ?_; rintro e w1 ⟨rfl, hB⟩; rw [C.out])
      | (go_at_call 112; refine (U.out _).mono ?_; rintro e w2 ⟨rfl, hB2⟩; rw [A.out]))
    go_returns
    exact ⟨rfl, Below.trans hB (hB2.mono hB.size)⟩
set_option maxHeartbeats 2000000 in
theorem IsAddrR_of (s : ByteArray) (w : World) (hs : s.size ≤ maxLen) : Calls Tryz.prog 69 #[.string s] w fun e w' => e = .returned (addrV s) ∧ Below w.heap.size w w' := by
  by_cases hC : capS s = s
  · by_cases hE : adE s = s.size
    · exact IsAddrR_yes s w hs hE hC
    · rw [addrV_no s (Or.inl hE)]
      have f : (adR s == (s.size : Int)) = false := by
        have : ¬ adR s = s.size := fun q => hE ((adR_iff s).1 q)
        simpa using this
      have C : Hid (capS s = s) := hC
      clear hE
      rcases Nat.lt_or_ge 0 s.size with hz | hz
      · have b0 := byt_in s 0 hz
        have g := text_some s hz
        by_cases e0 : byt s 0 = 37
        · have U : Hid (∀ w, Calls Tryz.prog 112 #[.string s, .int .i64 0] w fun e w' => e = .returned (.int .i64 (adR s)) ∧ Below w.heap.size w w') := fun w => addressR_of s w hs hC e0
          rw [b0] at e0
          clear b0 hC
          go_enter Tryz.func69, Tryz.ntmps69
          go_wp2_with (first
            | (go_at_call 111; refine (Upper_of s _ hs).mono ?_; rintro e w1 ⟨rfl, hB⟩; rw [C.out])
            | (go_at_call 112; refine (U.out _).mono ?_; rintro e w2 ⟨rfl, hB2⟩))
          go_returns
          exact ⟨rfl, Below.trans hB (hB2.mono hB.size)⟩
        · rw [b0] at e0
          clear b0 hC
          go_enter Tryz.func69, Tryz.ntmps69
          go_wp2
          go_returns
          exact ⟨rfl, Below.refl _ _⟩
      · have e : s = ⟨#[]⟩ := by
          cases s with
          | mk d =>
            have : d.size = 0 := Nat.le_zero.1 hz
            rw [Array.size_eq_zero_iff.1 this]
        subst e
        clear hC f C
        go_enter Tryz.func69, Tryz.ntmps69
        go_wp2
        go_returns
        exact ⟨rfl, Below.refl _ _⟩
  · rw [addrV_no s (Or.inr hC)]
    have f := text_ne hC
    rcases Nat.lt_or_ge 0 s.size with hz | hz
    · have g := text_some s hz
      clear hC
      go_enter Tryz.func69, Tryz.ntmps69
      go_wp2_with (go_at_call 111; refine (Upper_of s _ hs).mono ?_; rintro e w1 ⟨rfl, hB⟩)
      all_goals
        go_returns
        first
        | exact ⟨rfl, hB⟩
        | exact ⟨rfl, Below.refl _ _⟩
    · exfalso
      refine hC ?_
      cases s with
      | mk d =>
        have : d.size = 0 := Nat.le_zero.1 hz
        rw [Array.size_eq_zero_iff.1 this]
        rfl
end Go.Proofs.YtahgnmbkobiclaaGreat
namespace Go.Proofs.YtahgnmbkobiclaaGreat
set_option linter.unusedVariables false
open Go.RowKit
theorem IntegerR_of (k : Int) (w : World) (p : Bool) (h : p = decide (2 ≤ k ∧ k ≤ 9)) : Calls Tryz.prog 109 #[.int .u8 k] w fun e w' => e = .returned (.bool p) ∧ w' = w := by
  subst h
  by_cases c : 2 ≤ k
  · by_cases d : k ≤ 5
    · go_enter Tryz.func109, Tryz.ntmps109
      go_wp2
      go_ret
      exact ⟨ret_bool (by symm; simp; omega), rfl⟩
    · by_cases d2 : k ≤ 9
      · go_enter Tryz.func109, Tryz.ntmps109
        go_wp2
        go_ret
        exact ⟨ret_bool (by symm; simp [*]), rfl⟩
      · go_enter Tryz.func109, Tryz.ntmps109
        go_wp2
        go_ret
        exact ⟨ret_bool (by symm; simp; omega), rfl⟩
  · go_enter Tryz.func109, Tryz.ntmps109
    go_wp2
    go_ret
    exact ⟨ret_bool (by symm; simp; omega), rfl⟩
theorem may_19 {b : Int} {s : ByteArray} (c : may3 19 b s = true) : s.size ≤ 254 := by simp [may3] at c; exact c.2
theorem fit_end {k b mx r : Int} {s : ByteArray} {sub : Bool} {lo hi : Int} (c : may3 k b s = true) (R : fitsF k b s k sub lo hi mx = if k = 19 ∧ 1 ≤ mx ∧ mx < s.size then 5 else 0)
    (h : (r = 0 ∧ (¬ k = 19 ∨ (s.size : Int) ≤ (if mx < 1 then 254 else mx))) ∨ (r = 5 ∧ k = 19 ∧ (if mx < 1 then 254 else mx) < (s.size : Int))) : r = fitsF k b s k sub lo hi mx := by
  rw [R]
  by_cases e : k = 19
  · subst e
    have := may_19 c
    by_cases m : mx < 1
    · rw [if_pos m] at h; rw [if_neg (by omega)]; omega
    · rw [if_neg m] at h
      by_cases n : mx < s.size
      · rw [if_pos (by omega)]; omega
      · rw [if_neg (by omega)]; omega
  · rw [if_neg (by omega)]; omega
theorem num_wrap {k b : Int} {s : ByteArray} (h0 : 0 ≤ b) (h1 : b < 18446744073709551616) (i : 2 ≤ k ∧ k ≤ 9) (c : may3 k b s = true) (n : numOk k b s = true) : num k b = wrap64 b := by
  unfold num
  by_cases j : 2 ≤ k ∧ k ≤ 5 ∨ k = 14
  · rw [if_pos j]
  · rw [if_neg j]
    have hb : b < 9223372036854775808 := by
      by_cases e : k = 9
      · simp [numOk, e] at n; omega
      · have l : b < 4294967296 := by
          have m : mayW k b = true := by
            have e19 : ¬ k = 19 := by omega
            simp [may3, e19] at c; exact c.2
          have : k = 6 ∨ k = 7 ∨ k = 8 := by omega
          rcases this with rfl | rfl | rfl
          · rw [mw6] at m; simp at m; omega
          · rw [mw7] at m; simp at m; omega
          · rw [mw8] at m; simp at m; omega
        omega
    unfold wrap64; omega
theorem num_big {k b : Int} {s : ByteArray} (i : 2 ≤ k ∧ k ≤ 9) (c : may3 k b s = true) (n : numOk k b s = false) : 9223372036854775808 ≤ num k b := by
  have : k = 9 ∧ 9223372036854775808 ≤ b := by
    simp [numOk, c] at n; omega
  rw [num_u (by omega)]; exact this.2
theorem fit_e3 {k b mx : Int} {s : ByteArray} {lo hi : Int} (h0 : 0 ≤ b) (h1 : b < 18446744073709551616) (i : 2 ≤ k ∧ k ≤ 9) (c : may3 k b s = true) (n : numOk k b s = true) (h : wrap64 b < lo ∨ hi < wrap64 b) : 3 = fitsF k b s k true lo hi mx :=
  (fitsF_c2 k b s lo hi mx c i (by rw [num_wrap h0 h1 i c n]; omega)).symm
theorem fit_e0 {k b mx : Int} {s : ByteArray} {lo hi : Int} (h0 : 0 ≤ b) (h1 : b < 18446744073709551616) (i : 2 ≤ k ∧ k ≤ 9) (c : may3 k b s = true) (n : numOk k b s = true) (h : lo ≤ wrap64 b ∧ wrap64 b ≤ hi) : 0 = fitsF k b s k true lo hi mx := by
  rw [fitsF_c1 k b s true lo hi mx c (by rw [num_wrap h0 h1 i c n]; omega), if_neg (by omega)]
section
variable (tk : Int) (sub : Bool) (lo hi mx : Int) (arr : Bool) (fr tz : Int) (bl : ByteArray) (k b : Int) (s : ByteArray) (w : World)
set_option maxHeartbeats 400000 in
theorem FitsR_a (h0 : 0 ≤ b) (h1 : b < 18446744073709551616) (hk : 0 ≤ k ∧ k < 256) (hs : s.size ≤ maxLen) (c : may3 k b s = false) :
    Calls Tryz.prog 67 #[T tk sub lo hi mx arr fr tz bl, V k b s] w fun e w' => e = .returned (.int .i64 (fitsF k b s tk sub lo hi mx)) ∧ Below w.heap.size w w' := by
  have R : Hid (8 = fitsF k b s tk sub lo hi mx) := by unfold fitsF; rw [if_pos (.inl c)]; rfl
  go_enter Tryz.func67, Tryz.ntmps67
  go_wp2_with (first | (go_at_call 74; refine (MayR_of _ _ _ _ h0 h1 hk hs).mono ?_; rintro e w1 ⟨rfl, hb⟩; obtain ⟨hc, hf⟩ := bcell hb))
  go_ret
  exact ⟨ret_int R.out, (((Below.refl _ _).alloc (Nat.le_refl _) _).alloc (by simp) _).trans (hb.mono (by simp; omega))⟩
set_option maxHeartbeats 400000 in
theorem FitsR_b (h0 : 0 ≤ b) (h1 : b < 18446744073709551616) (hk : 0 ≤ k ∧ k < 256) (hs : s.size ≤ maxLen) (c : may3 k b s = true) (d : (k != tk) = true) :
    Calls Tryz.prog 67 #[T tk sub lo hi mx arr fr tz bl, V k b s] w fun e w' => e = .returned (.int .i64 (fitsF k b s tk sub lo hi mx)) ∧ Below w.heap.size w w' := by
  have R : Hid (8 = fitsF k b s tk sub lo hi mx) := by unfold fitsF; rw [if_pos (.inr (by simpa using d))]; rfl
  go_enter Tryz.func67, Tryz.ntmps67
  go_wp2_with (first | (go_at_call 74; refine (MayR_of _ _ _ _ h0 h1 hk hs).mono ?_; rintro e w1 ⟨rfl, hb⟩; obtain ⟨hc, hf⟩ := bcell hb))
  go_ret
  exact ⟨ret_int R.out, (((Below.refl _ _).alloc (Nat.le_refl _) _).alloc (by simp) _).trans (hb.mono (by simp; omega))⟩
theorem below_box2 {w w1 : World} {x y : Obj} (hb : Below ((w.alloc x).alloc y).heap.size ((w.alloc x).alloc y) w1) : Below w.heap.size w w1 :=
  (((Below.refl _ _).alloc (Nat.le_refl _) _).alloc (by simp) _).trans (hb.mono (by simp; omega))
theorem below_lt2 {w w1 : World} {x y : Obj} (hb : Below ((w.alloc x).alloc y).heap.size ((w.alloc x).alloc y) w1) : w.heap.size < w1.heap.size ∧ w.heap.size + 1 < w1.heap.size := by have := hb.size; simp at this; omega
set_option maxHeartbeats 1000000 in
theorem FitsR_c (h0 : 0 ≤ b) (h1 : b < 18446744073709551616) (hk : 0 ≤ k ∧ k < 256) (hs : s.size ≤ maxLen) (c : may3 k b s = true) :
    Calls Tryz.prog 67 #[T k false lo hi mx arr fr tz bl, V k b s] w fun e w' => e = .returned (.int .i64 (fitsF k b s k false lo hi mx)) ∧ Below w.heap.size w w' := by
  have R : Hid (fitsF k b s k false lo hi mx = if k = 19 ∧ 1 ≤ mx ∧ mx < s.size then 5 else 0) := fitsF_c1 k b s false lo hi mx c (by simp)
  go_enter Tryz.func67, Tryz.ntmps67
  go_wp2_with (first | (go_at_call 74; refine (MayR_of _ _ _ _ h0 h1 hk hs).mono ?_; rintro e w1 ⟨rfl, hb⟩; obtain ⟨hc, hf⟩ := bcell hb))
  all_goals
    go_ret
    refine ⟨ret_int ?_, below_box2 hb⟩
    refine fit_end c R.out ?_
    split <;> omega
set_option maxHeartbeats 1000000 in
theorem FitsR_d (h0 : 0 ≤ b) (h1 : b < 18446744073709551616) (hk : 0 ≤ k ∧ k < 256) (hs : s.size ≤ maxLen) (c : may3 k b s = true) (g1 : -9223372036854775808 ≤ lo ∧ lo < 9223372036854775808) (g2 : -9223372036854775808 ≤ hi ∧ hi < 9223372036854775808) (i : ¬ (2 ≤ k ∧ k ≤ 9)) :
    Calls Tryz.prog 67 #[T k true lo hi mx arr fr tz bl, V k b s] w fun e w' => e = .returned (.int .i64 (fitsF k b s k true lo hi mx)) ∧ Below w.heap.size w w' := by
  have R : Hid (fitsF k b s k true lo hi mx = if k = 19 ∧ 1 ≤ mx ∧ mx < s.size then 5 else 0) := fitsF_c1 k b s true lo hi mx c (by simp only [true_and]; exact fun h => i h.1)
  have I : Hid (¬ (2 ≤ k ∧ k ≤ 9)) := i
  clear i
  go_enter Tryz.func67, Tryz.ntmps67
  go_wp2_with (first | (go_at_call 74; refine (MayR_of _ _ _ _ h0 h1 hk hs).mono ?_; rintro e w1 ⟨rfl, hb⟩; obtain ⟨hc, hf⟩ := bcell hb; obtain ⟨z0, z1⟩ := below_lt2 hb) | (go_at_call 109; refine (IntegerR_of _ _ false (by symm; simpa using I.out)).mono ?_; rintro e w2 ⟨rfl, rfl⟩) | (go_at_call 110; refine (NumberR_of _ _ _ _ h0 h1 hk hs).mono ?_; rintro e w2 ⟨rfl, hb2⟩; obtain ⟨hc2, hf2⟩ := bcell hb2))
  all_goals
    go_ret
    refine ⟨ret_int ?_, below_box2 hb⟩
    refine fit_end c R.out ?_
    split <;> omega
set_option maxHeartbeats 1000000 in
theorem FitsR_e (h0 : 0 ≤ b) (h1 : b < 18446744073709551616) (hk : 0 ≤ k ∧ k < 256) (hs : s.size ≤ maxLen) (c : may3 k b s = true) (g1 : -9223372036854775808 ≤ lo ∧ lo < 9223372036854775808) (g2 : -9223372036854775808 ≤ hi ∧ hi < 9223372036854775808) (i : 2 ≤ k ∧ k ≤ 9) (n : numOk k b s = true) :
    Calls Tryz.prog 67 #[T k true lo hi mx arr fr tz bl, V k b s] w fun e w' => e = .returned (.int .i64 (fitsF k b s k true lo hi mx)) ∧ Below w.heap.size w w' := by
  have I : Hid (2 ≤ k ∧ k ≤ 9) := i
  clear i
  go_enter Tryz.func67, Tryz.ntmps67
  go_wp2_with (first | (go_at_call 74; refine (MayR_of _ _ _ _ h0 h1 hk hs).mono ?_; rintro e w1 ⟨rfl, hb⟩; obtain ⟨hc, hf⟩ := bcell hb; obtain ⟨z0, z1⟩ := below_lt2 hb) | (go_at_call 109; refine (IntegerR_of _ _ true (by symm; simpa using I.out)).mono ?_; rintro e w2 ⟨rfl, rfl⟩) | (go_at_call 110; refine (NumberR_of _ _ _ _ h0 h1 hk hs).mono ?_; rintro e w2 ⟨rfl, hb2⟩; obtain ⟨hc2, hf2⟩ := bcell hb2))
  all_goals
    go_ret
    refine ⟨ret_int ?_, (below_box2 hb).trans (hb2.mono (by omega))⟩
    first | (exfalso; have := I.out; omega) | exact fit_e0 h0 h1 I.out c n ‹_› | exact fit_e3 h0 h1 I.out c n (by omega)
set_option maxHeartbeats 1000000 in
theorem FitsR_f (h0 : 0 ≤ b) (h1 : b < 18446744073709551616) (hk : 0 ≤ k ∧ k < 256) (hs : s.size ≤ maxLen) (c : may3 k b s = true) (g1 : -9223372036854775808 ≤ lo ∧ lo < 9223372036854775808) (g2 : -9223372036854775808 ≤ hi ∧ hi < 9223372036854775808) (i : 2 ≤ k ∧ k ≤ 9) (n : numOk k b s = false) :
    Calls Tryz.prog 67 #[T k true lo hi mx arr fr tz bl, V k b s] w fun e w' => e = .returned (.int .i64 (fitsF k b s k true lo hi mx)) ∧ Below w.heap.size w w' := by
  have I : Hid (2 ≤ k ∧ k ≤ 9) := i
  clear i
  go_enter Tryz.func67, Tryz.ntmps67
  go_wp2_with (first | (go_at_call 74; refine (MayR_of _ _ _ _ h0 h1 hk hs).mono ?_; rintro e w1 ⟨rfl, hb⟩; obtain ⟨hc, hf⟩ := bcell hb; obtain ⟨z0, z1⟩ := below_lt2 hb) | (go_at_call 109; refine (IntegerR_of _ _ true (by symm; simpa using I.out)).mono ?_; rintro e w2 ⟨rfl, rfl⟩) | (go_at_call 110; refine (NumberR_of _ _ _ _ h0 h1 hk hs).mono ?_; rintro e w2 ⟨rfl, hb2⟩; obtain ⟨hc2, hf2⟩ := bcell hb2))
  all_goals
    go_ret
    refine ⟨ret_int ?_, (below_box2 hb).trans (hb2.mono (by omega))⟩
    exact (fitsF_c2 k b s lo hi mx c I.out (by have := num_big I.out c n; omega)).symm
theorem FitsR_of (h0 : 0 ≤ b) (h1 : b < 18446744073709551616) (hk : 0 ≤ k ∧ k < 256) (hs : s.size ≤ maxLen) (g1 : -9223372036854775808 ≤ lo ∧ lo < 9223372036854775808) (g2 : -9223372036854775808 ≤ hi ∧ hi < 9223372036854775808) :
    Calls Tryz.prog 67 #[T tk sub lo hi mx arr fr tz bl, V k b s] w fun e w' => e = .returned (.int .i64 (fitsF k b s tk sub lo hi mx)) ∧ Below w.heap.size w w' := by
  cases c : may3 k b s
  · exact FitsR_a tk sub lo hi mx arr fr tz bl k b s w h0 h1 hk hs c
  by_cases d : k = tk
  · subst d
    cases sub
    · exact FitsR_c lo hi mx arr fr tz bl k b s w h0 h1 hk hs c
    by_cases i : 2 ≤ k ∧ k ≤ 9
    · cases n : numOk k b s
      · exact FitsR_f lo hi mx arr fr tz bl k b s w h0 h1 hk hs c g1 g2 i n
      · exact FitsR_e lo hi mx arr fr tz bl k b s w h0 h1 hk hs c g1 g2 i n
    · exact FitsR_d lo hi mx arr fr tz bl k b s w h0 h1 hk hs c g1 g2 i
  · exact FitsR_b tk sub lo hi mx arr fr tz bl k b s w h0 h1 hk hs c (by simpa using d)
end
end Go.Proofs.YtahgnmbkobiclaaGreat
namespace Go.Proofs.YtahgnmbkobiclaaGreat
set_option linter.unusedVariables false
open Go.RowKit
set_option maxRecDepth 20000 in
set_option maxHeartbeats 8000000 in
theorem SameImage_of (m m' : ImR) (x1 x2 x3 y1 y2 y3 : Option Addr) (c1 c2 c3 d1 d2 d3 : Nat) (w : World) {S : Nat → Prop} (hS : ∀ b, S b → b < w.heap.size) (ha : ImQ S w m x1 x2 x3) (hb : ImQ S w m' y1 y2 y3) :
    Calls Tryz.prog 7 #[.agg #[.string m.nm, .slice x1 m.cs.length c1, .slice x2 m.fs.length c2, .slice x3 m.js.length c3], .agg #[.string m'.nm, .slice y1 m'.cs.length d1, .slice y2 m'.fs.length d2, .slice y3 m'.js.length d3]] w fun e w' => e = .returned (.bool (decide (m = m'))) ∧ Below w.heap.size w w' := by
  have FR : ∀ W, Below w.heap.size w W → FrS S w W := fun W hb q hq => hb.cell (hS _ hq)
  have SS : Hid (∀ W, Below w.heap.size w W → ∀ b, S b → b < W.heap.size) := fun W hb b h => Nat.lt_of_lt_of_le (hS b h) hb.size
  have Q1 : Hid (∀ W, Below w.heap.size w W → Calls Tryz.prog 16 #[.slice x1 m.cs.length c1, .slice y1 m'.cs.length d1] W fun e w' => e = .returned (.bool (decide (m.cs = m'.cs))) ∧ Below W.heap.size W w') := fun W h => EqualC _ _ _ _ _ _ _ (SS.out W h) (ha.fr (FR W h)).1 (hb.fr (FR W h)).1
  have Q2 : Hid (∀ W, Below w.heap.size w W → Calls Tryz.prog 17 #[.slice x2 m.fs.length c2, .slice y2 m'.fs.length d2] W fun e w' => e = .returned (.bool (decide (m.fs = m'.fs))) ∧ Below W.heap.size W w') := fun W h => SameFlats_of _ _ _ _ _ _ _ (SS.out W h) (ha.fr (FR W h)).2.1 (hb.fr (FR W h)).2.1
  have HA : Hid (∀ W, Below w.heap.size w W → RwF 7 (JbP S W) S W x3 m.js) := fun W h => (ha.fr (FR W h)).2.2
  have HB : Hid (∀ W, Below w.heap.size w W → RwF 7 (JbP S W) S W y3 m'.js) := fun W h => (hb.fr (FR W h)).2.2
  have HX : Hid (∀ W f f' x1 x2 y1 y2 c1 c2 d1 d2, Below w.heap.size w W → JbQ S W f x1 x2 → JbQ S W f' y1 y2 → Calls Tryz.prog 18 #[.agg #[.string f.nm, .int .i64 f.iv, .int .i64 f.sg, .int .i64 f.pr, .slice x1 f.cs.length c1, .slice x2 f.bs.length c2, .int .i64 f.bd], .agg #[.string f'.nm, .int .i64 f'.iv, .int .i64 f'.sg, .int .i64 f'.pr, .slice y1 f'.cs.length d1, .slice y2 f'.bs.length d2, .int .i64 f'.bd]] W fun e w' => e = .returned (.bool (decide (f = f'))) ∧ Below W.heap.size W w') := fun W f f' x1 x2 y1 y2 c1 c2 d1 d2 hb h1 h2 => SameJob_of f f' x1 x2 y1 y2 c1 c2 d1 d2 W (SS.out W hb) h1 h2
  have FRH : Hid (∀ W, Below w.heap.size w W → FrS S w W) := FR
  have HS : Hid (∀ b, S b → b < w.heap.size) := hS
  clear ha hb hS FR
  have GQ : Hid (∀ X Y : Obj, Below w.heap.size w ((w.alloc X).alloc Y)) := fun X Y => GR w X Y
  rw [img_dec]
  generalize decide (m.cs = m'.cs) = r1 at *
  generalize decide (m.fs = m'.fs) = r2 at *
  generalize hr3 : decide (m.js = m'.js) = r3 at *
  obtain ⟨nm, cs, fs, js⟩ := m
  obtain ⟨nm', cs', fs', js'⟩ := m'
  simp only at Q1 Q2 HA HB hr3 ⊢
  have R3 : Hid (decide (js = js') = r3) := hr3
  clear hr3
  by_cases E0 : nm = nm'
  case neg =>
    have q1 : (nm.toList == nm'.toList) = false := by apply Bool.eq_false_iff.2; intro q; exact E0 (ba_ext (by simpa using q))
    have q2 : (nm.toList != nm'.toList) = true := by simp [bne, q1]
    have ed : decide (nm = nm') = false := decide_eq_false E0
    clear E0
    rw [ed]
    clear ed
    go_enter Tryz.func7, Tryz.ntmps7
    go_wp2
    go_ret
    exact ⟨by simp, GQ.out _ _⟩
  subst E0
  rw [decide_eq_true rfl]
  go_enter Tryz.func7, Tryz.ntmps7
  go_wp2_with fail
  refine (Q1.out _ (GQ.out _ _)).mono ?_
  rintro e w1 ⟨rfl, hb⟩
  have X1 := (hb.block w.heap.size (by simp; omega)).trans (two_at w _ _).1
  have Y1 := (hb.block (w.heap.size + 1) (by simp)).trans (two_at w _ _).2
  have k1 : w1.cell? ⟨w.heap.size, 2, none⟩ = some (.slice x2 fs.length c2) := by simp [World.cell?, X1]
  have k2 : w1.cell? ⟨w.heap.size + 1, 2, none⟩ = some (.slice y2 fs'.length d2) := by simp [World.cell?, Y1]
  have XX : Hid _ := X1
  have YY : Hid _ := Y1
  have s1 : w.heap.size + 2 ≤ w1.heap.size := by have := hb.size; simp at this; omega
  have B1 : Hid (Below w.heap.size w w1) := (GQ.out _ _).trans (hb.mono (GQ.out _ _).size)
  clear hb X1 Y1
  cases r1
  · go_wp2
    go_ret
    exact ⟨by simp, B1.out⟩
  · go_wp2_with fail
    refine (Q2.out _ B1.out).mono ?_
    rintro e w2 ⟨rfl, hb⟩
    have B2 : Hid (Below w.heap.size w w2) := B1.out.trans (hb.mono B1.out.size)
    have X2 := (hb.block w.heap.size (by omega)).trans XX.out
    have Y2 := (hb.block (w.heap.size + 1) (by omega)).trans YY.out
    have k3 : w2.cell? ⟨w.heap.size, 3, none⟩ = some (.slice x3 js.length c3) := by simp [World.cell?, X2]
    have k4 : w2.cell? ⟨w.heap.size + 1, 3, none⟩ = some (.slice y3 js'.length d3) := by simp [World.cell?, Y2]
    have s2 : w.heap.size + 2 ≤ w2.heap.size := by have := hb.size; omega
    clear hb X2 Y2 XX YY k1 k2 s1
    cases r2
    · go_wp2
      go_ret
      exact ⟨by simp, B2.out⟩
    · by_cases el : js.length = js'.length
      case neg =>
        have el' : ((js.length : Int) == (js'.length : Int)) = false := by rw [beq_eq_false_iff_ne]; omega
        have el2 : ((js.length : Int) != (js'.length : Int)) = true := by simp [bne, el']
        have ed : r3 = false := R3.out.symm.trans (decide_eq_false fun e => el (by rw [e]))
        subst ed
        clear el
        go_wp2
        go_ret
        exact ⟨by simp, B2.out⟩
      have EL : Hid _ := el
      have el' : ((js.length : Int) == (js'.length : Int)) = true := by rw [beq_iff_eq]; omega
      have el2 : ((js.length : Int) != (js'.length : Int)) = false := by simp [bne, el']
      clear el
      have FLH : Hid _ := (HA.out _ (Below.refl _ _)).1
      go_wp2_with fail
      go_loopw [39] (fun i wr => ∃ k : Nat, k ≤ js.length ∧ i = .int .i64 k ∧ Below w2.heap.size w2 wr ∧ ∀ j, j < k → js[j]? = js'[j]?) (fun i _ => js.length - (intOf i).toNat)
      case atStart => exact ⟨0, Nat.zero_le _, rfl, Below.refl _ _, fun j hj => absurd hj (Nat.not_lt_zero _)⟩
      case round =>
        obtain ⟨k, hk, rfl, hbw, hall⟩ := hrel
        have HV : Hid (Below w2.heap.size w2 wr) := hbw
        have HW : Hid (Below w.heap.size w wr) := B2.out.trans (hbw.mono B2.out.size)
        have AL : Hid _ := hall
        clear hall
        by_cases hlt : k < js.length
        · obtain ⟨a, rfl⟩ := (HA.out _ (Below.refl _ _)).some (by omega)
          obtain ⟨b, rfl⟩ := (HB.out _ (Below.refl _ _)).some (by have := EL.out; omega)
          obtain ⟨s, sv, se, _, ⟨sx, sc, sy, sd, rfl, sq⟩, sk⟩ := (HA.out _ HW.out).el k hlt
          obtain ⟨t, tv, te, _, ⟨tx, tc, ty, td, rfl, tq⟩, tk⟩ := (HB.out _ HW.out).el k (by have := EL.out; omega)
          have e0 := sk.c0
          have e1 := sk.cp 0 _ rfl
          have e2 := sk.cp 1 _ rfl
          have e3 := sk.cp 2 _ rfl
          have e4 := sk.cp 3 _ rfl
          have e5 := sk.cp 4 _ rfl
          have e6 := sk.cp 5 _ rfl
          have g0 := tk.c0
          have g1 := tk.cp 0 _ rfl
          have g2 := tk.cp 1 _ rfl
          have g3 := tk.cp 2 _ rfl
          have g4 := tk.cp 3 _ rfl
          have g5 := tk.cp 4 _ rfl
          have g6 := tk.cp 5 _ rfl
          have ES : Hid (js[k]? = some s) := se
          have ET : Hid (js'[k]? = some t) := te
          have QS : Hid (JbQ S wr s sx sy) := sq
          have QT : Hid (JbQ S wr t tx ty) := tq
          have LT : Hid _ := hlt
          have kl : (k : Int) < js.length := by omega
          have kl2 : (k : Int) < js'.length := by have := EL.out; omega
          have j3 : ∀ x : Sub wr, x.w.cell? ⟨w.heap.size, 3, none⟩ = some (.slice (some a) js.length c3) := fun x => (x.h.cell (p := ⟨w.heap.size, 3, none⟩) (by have := HV.out.size; show w.heap.size < _; omega)).trans ((HV.out.cell (p := ⟨w.heap.size, 3, none⟩) (by show w.heap.size < _; omega)).trans k3)
          have j4 : ∀ x : Sub wr, x.w.cell? ⟨w.heap.size + 1, 3, none⟩ = some (.slice (some b) js'.length d3) := fun x => (x.h.cell (p := ⟨w.heap.size + 1, 3, none⟩) (by have := HV.out.size; show w.heap.size + 1 < _; omega)).trans ((HV.out.cell (p := ⟨w.heap.size + 1, 3, none⟩) (by show w.heap.size + 1 < _; omega)).trans k4)
          clear hbw se te hlt sk tk sq tq
          have za := block_lt_of_cell e0
          have zb := block_lt_of_cell g0
          go_wp2_with fail
          have ca0 : ∀ x : Sub wr, x.w.cell? (a.add (k * 7)) = some (.string s.nm) := fun x => (x.h.cell za).trans e0
          have ca1 : ∀ x : Sub wr, x.w.cell? ⟨(a.add (k * 7)).block, (a.add (k * 7)).off + 1, none⟩ = some (.int .i64 s.iv) := fun x => (x.h.cell (p := ⟨(a.add (k * 7)).block, (a.add (k * 7)).off + 1, none⟩) za).trans e1
          have ca2 : ∀ x : Sub wr, x.w.cell? ⟨(a.add (k * 7)).block, (a.add (k * 7)).off + 2, none⟩ = some (.int .i64 s.sg) := fun x => (x.h.cell (p := ⟨(a.add (k * 7)).block, (a.add (k * 7)).off + 2, none⟩) za).trans e2
          have ca3 : ∀ x : Sub wr, x.w.cell? ⟨(a.add (k * 7)).block, (a.add (k * 7)).off + 3, none⟩ = some (.int .i64 s.pr) := fun x => (x.h.cell (p := ⟨(a.add (k * 7)).block, (a.add (k * 7)).off + 3, none⟩) za).trans e3
          have ca4 : ∀ x : Sub wr, x.w.cell? ⟨(a.add (k * 7)).block, (a.add (k * 7)).off + 4, none⟩ = some (.slice sx s.cs.length sc) := fun x => (x.h.cell (p := ⟨(a.add (k * 7)).block, (a.add (k * 7)).off + 4, none⟩) za).trans e4
          have ca5 : ∀ x : Sub wr, x.w.cell? ⟨(a.add (k * 7)).block, (a.add (k * 7)).off + 5, none⟩ = some (.slice sy s.bs.length sd) := fun x => (x.h.cell (p := ⟨(a.add (k * 7)).block, (a.add (k * 7)).off + 5, none⟩) za).trans e5
          have ca6 : ∀ x : Sub wr, x.w.cell? ⟨(a.add (k * 7)).block, (a.add (k * 7)).off + 6, none⟩ = some (.int .i64 s.bd) := fun x => (x.h.cell (p := ⟨(a.add (k * 7)).block, (a.add (k * 7)).off + 6, none⟩) za).trans e6
          have cb0 : ∀ x : Sub wr, x.w.cell? (b.add (k * 7)) = some (.string t.nm) := fun x => (x.h.cell zb).trans g0
          have cb1 : ∀ x : Sub wr, x.w.cell? ⟨(b.add (k * 7)).block, (b.add (k * 7)).off + 1, none⟩ = some (.int .i64 t.iv) := fun x => (x.h.cell (p := ⟨(b.add (k * 7)).block, (b.add (k * 7)).off + 1, none⟩) zb).trans g1
          have cb2 : ∀ x : Sub wr, x.w.cell? ⟨(b.add (k * 7)).block, (b.add (k * 7)).off + 2, none⟩ = some (.int .i64 t.sg) := fun x => (x.h.cell (p := ⟨(b.add (k * 7)).block, (b.add (k * 7)).off + 2, none⟩) zb).trans g2
          have cb3 : ∀ x : Sub wr, x.w.cell? ⟨(b.add (k * 7)).block, (b.add (k * 7)).off + 3, none⟩ = some (.int .i64 t.pr) := fun x => (x.h.cell (p := ⟨(b.add (k * 7)).block, (b.add (k * 7)).off + 3, none⟩) zb).trans g3
          have cb4 : ∀ x : Sub wr, x.w.cell? ⟨(b.add (k * 7)).block, (b.add (k * 7)).off + 4, none⟩ = some (.slice tx t.cs.length tc) := fun x => (x.h.cell (p := ⟨(b.add (k * 7)).block, (b.add (k * 7)).off + 4, none⟩) zb).trans g4
          have cb5 : ∀ x : Sub wr, x.w.cell? ⟨(b.add (k * 7)).block, (b.add (k * 7)).off + 5, none⟩ = some (.slice ty t.bs.length td) := fun x => (x.h.cell (p := ⟨(b.add (k * 7)).block, (b.add (k * 7)).off + 5, none⟩) zb).trans g5
          have cb6 : ∀ x : Sub wr, x.w.cell? ⟨(b.add (k * 7)).block, (b.add (k * 7)).off + 6, none⟩ = some (.int .i64 t.bd) := fun x => (x.h.cell (p := ⟨(b.add (k * 7)).block, (b.add (k * 7)).off + 6, none⟩) zb).trans g6
          have E1 : Hid (∀ y : Sub wr, Calls Tryz.prog 18 #[.agg #[.string s.nm, .int .i64 s.iv, .int .i64 s.sg, .int .i64 s.pr, .slice sx s.cs.length sc, .slice sy s.bs.length sd, .int .i64 s.bd], .agg #[.string t.nm, .int .i64 t.iv, .int .i64 t.sg, .int .i64 t.pr, .slice tx t.cs.length tc, .slice ty t.bs.length td, .int .i64 t.bd]] y.w fun e w' => e = .returned (.bool (decide (s = t))) ∧ Below y.w.heap.size y.w w') := fun y => HX.out _ _ _ _ _ _ _ _ _ _ _ (HW.out.trans (y.h.mono HW.out.size)) (QS.out.fr (fun q hq => y.h.cell (Nat.lt_of_lt_of_le (HS.out _ hq) HW.out.size))) (QT.out.fr (fun q hq => y.h.cell (Nat.lt_of_lt_of_le (HS.out _ hq) HW.out.size)))
          generalize hq : decide (s = t) = bq at *
          have HQ : Hid (decide (s = t) = bq) := hq
          clear hq
          refine wp_region_sub2 (by kernel_rfl) (by kernel_rfl) ?_
          intro cx
          repeat (first | go_big_quiet_skip | (go_big_quiet_want; go_big_quiet_op; first | go_big_quiet_on | (refine ⟨_, fun _ => rfl, ?_⟩; go_big_quiet_on) | go_big_quiet_call (first | (go_at_call 18; exact calls_sub (E1.out _)))))
          refine wpQuiet_nil ?_
          rintro _ ⟨y, rfl⟩
          have B5 : Hid (Below w2.heap.size w2 y.w) := HV.out.trans (y.h.mono HV.out.size)
          clear cx E1 e0 e1 e2 e3 e4 e5 e6 g0 g1 g2 g3 g4 g5 g6 za zb ca0 ca1 ca2 ca3 ca4 ca5 ca6 cb0 cb1 cb2 cb3 cb4 cb5 cb6 j3 j4
          cases bq
          · have ed : r3 = false := R3.out.symm.trans (decide_eq_false fun e => of_decide_eq_false HQ.out (by have a := ES.out; rw [e, ET.out] at a; exact (Option.some.inj a).symm))
            subst ed
            go_wp2
            go_ret
            exact ⟨by simp, B2.out.trans (B5.out.mono B2.out.size)⟩
          · have ew : wrap64 ((k : Int) + 1) = (k : Int) + 1 := by have := FLH.out; have := LT.out; unfold wrap64; omega
            go_wp2
            rw [ew]
            exact ⟨⟨k + 1, Nat.succ_le_of_lt LT.out, rfl, B5.out, fun j hj => by rcases Nat.lt_succ_iff_lt_or_eq.1 hj with h | rfl; exact AL.out j h; rw [ES.out, ET.out, of_decide_eq_true HQ.out]⟩, msr LT.out⟩
        · have kl : ¬ (k : Int) < js.length := by omega
          have ed : r3 = true := R3.out.symm.trans (decide_eq_true (List.ext_getElem? fun j => by
            by_cases hj : j < k
            · exact AL.out j hj
            · have := EL.out
              rw [List.getElem?_eq_none (by omega), List.getElem?_eq_none (by omega)]))
          subst ed
          clear hbw hlt
          go_wp2
          go_ret
          exact ⟨by simp, HW.out⟩
end Go.Proofs.YtahgnmbkobiclaaGreat
