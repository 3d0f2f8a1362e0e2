/- What the document's Fits answers, for every type and value; no statement of the seat is proved here. -/
import Derived.Test.YtpcjnhffpkpchaaGreatNumRY
namespace Go.Proofs.YtpcjnhffpkpchaaGreat
set_option linter.unusedVariables false
open Go.RowKit
theorem IntegerR_of (k : Int) (w : World) (p : Bool) (h : p = decide (2 ≤ k ∧ k ≤ 9)) : Calls Tryz.prog 94 #[.int .u8 k] w fun e w' => e = .returned (.bool p) ∧ w' = w := by
  subst h
  by_cases c : 2 ≤ k
  · by_cases d : k ≤ 5
    · go_enter Tryz.func94, Tryz.ntmps94
      go_wp2
      go_ret
      exact ⟨ret_bool (by symm; simp; omega), rfl⟩
    · by_cases d2 : k ≤ 9
      · go_enter Tryz.func94, Tryz.ntmps94
        go_wp2
        go_ret
        exact ⟨ret_bool (by symm; simp [*]), rfl⟩
      · go_enter Tryz.func94, Tryz.ntmps94
        go_wp2
        go_ret
        exact ⟨ret_bool (by symm; simp; omega), rfl⟩
  · go_enter Tryz.func94, Tryz.ntmps94
    go_wp2
    go_ret
    exact ⟨ret_bool (by symm; simp; omega), rfl⟩
theorem may_19 {b : Int} {s : ByteArray} (c : may3 19 b s = true) : s.size ≤ 254 := by simp [may3] at c; exact c.2
theorem fit_end {k b mx r : Int} {s : ByteArray} {sub : Bool} {lo hi : Int} (c : may3 k b s = true) (R : fitsF k b s k sub lo hi mx = if k = 19 ∧ 1 ≤ mx ∧ mx < s.size then 5 else 0)
    (h : (r = 0 ∧ (¬ k = 19 ∨ (s.size : Int) ≤ (if mx < 1 then 254 else mx))) ∨ (r = 5 ∧ k = 19 ∧ (if mx < 1 then 254 else mx) < (s.size : Int))) : r = fitsF k b s k sub lo hi mx := by
  rw [R]
  by_cases e : k = 19
  · subst e
    have := may_19 c
    by_cases m : mx < 1
    · rw [if_pos m] at h; rw [if_neg (by omega)]; omega
    · rw [if_neg m] at h
      by_cases n : mx < s.size
      · rw [if_pos (by omega)]; omega
      · rw [if_neg (by omega)]; omega
  · rw [if_neg (by omega)]; omega
theorem num_wrap {k b : Int} {s : ByteArray} (h0 : 0 ≤ b) (h1 : b < 18446744073709551616) (i : 2 ≤ k ∧ k ≤ 9) (c : may3 k b s = true) (n : numOk k b s = true) : num k b = wrap64 b := by
  unfold num
  by_cases j : 2 ≤ k ∧ k ≤ 5 ∨ k = 14
  · rw [if_pos j]
  · rw [if_neg j]
    have hb : b < 9223372036854775808 := by
      by_cases e : k = 9
      · simp [numOk, e] at n; omega
      · have l : b < 4294967296 := by
          have m : mayW k b = true := by
            have e19 : ¬ k = 19 := by omega
            simp [may3, e19] at c; exact c.2
          have : k = 6 ∨ k = 7 ∨ k = 8 := by omega
          rcases this with rfl | rfl | rfl
          · rw [mw6] at m; simp at m; omega
          · rw [mw7] at m; simp at m; omega
          · rw [mw8] at m; simp at m; omega
        omega
    unfold wrap64; omega
theorem num_big {k b : Int} {s : ByteArray} (i : 2 ≤ k ∧ k ≤ 9) (c : may3 k b s = true) (n : numOk k b s = false) : 9223372036854775808 ≤ num k b := by
  have : k = 9 ∧ 9223372036854775808 ≤ b := by
    simp [numOk, c] at n; omega
  rw [num_u (by omega)]; exact this.2
theorem fit_e3 {k b mx : Int} {s : ByteArray} {lo hi : Int} (h0 : 0 ≤ b) (h1 : b < 18446744073709551616) (i : 2 ≤ k ∧ k ≤ 9) (c : may3 k b s = true) (n : numOk k b s = true) (h : wrap64 b < lo ∨ hi < wrap64 b) : 3 = fitsF k b s k true lo hi mx :=
  (fitsF_c2 k b s lo hi mx c i (by rw [num_wrap h0 h1 i c n]; omega)).symm
theorem fit_e0 {k b mx : Int} {s : ByteArray} {lo hi : Int} (h0 : 0 ≤ b) (h1 : b < 18446744073709551616) (i : 2 ≤ k ∧ k ≤ 9) (c : may3 k b s = true) (n : numOk k b s = true) (h : lo ≤ wrap64 b ∧ wrap64 b ≤ hi) : 0 = fitsF k b s k true lo hi mx := by
  rw [fitsF_c1 k b s true lo hi mx c (by rw [num_wrap h0 h1 i c n]; omega), if_neg (by omega)]
section
variable (tk : Int) (sub : Bool) (lo hi mx : Int) (arr : Bool) (fr to : Int) (bl : ByteArray) (k b : Int) (s : ByteArray) (w : World)
set_option maxHeartbeats 400000 in
theorem FitsR_a (h0 : 0 ≤ b) (h1 : b < 18446744073709551616) (hk : 0 ≤ k ∧ k < 256) (hs : s.size ≤ maxLen) (c : may3 k b s = false) :
    Calls Tryz.prog 71 #[T tk sub lo hi mx arr fr to bl, V k b s] w fun e w' => e = .returned (.int .i64 (fitsF k b s tk sub lo hi mx)) ∧ Below w.heap.size w w' := by
  have R : Hid (8 = fitsF k b s tk sub lo hi mx) := by unfold fitsF; rw [if_pos (.inl c)]; rfl
  go_enter Tryz.func71, Tryz.ntmps71
  go_wp2_with (first | (go_at_call 78; refine (MayR_of _ _ _ _ h0 h1 hk hs).mono ?_; rintro e w1 ⟨rfl, hb⟩; obtain ⟨hc, hf⟩ := bcell hb))
  go_ret
  exact ⟨ret_int R.out, (((Below.refl _ _).alloc (Nat.le_refl _) _).alloc (by simp) _).trans (hb.mono (by simp; omega))⟩
set_option maxHeartbeats 400000 in
theorem FitsR_b (h0 : 0 ≤ b) (h1 : b < 18446744073709551616) (hk : 0 ≤ k ∧ k < 256) (hs : s.size ≤ maxLen) (c : may3 k b s = true) (d : (k != tk) = true) :
    Calls Tryz.prog 71 #[T tk sub lo hi mx arr fr to bl, V k b s] w fun e w' => e = .returned (.int .i64 (fitsF k b s tk sub lo hi mx)) ∧ Below w.heap.size w w' := by
  have R : Hid (8 = fitsF k b s tk sub lo hi mx) := by unfold fitsF; rw [if_pos (.inr (by simpa using d))]; rfl
  go_enter Tryz.func71, Tryz.ntmps71
  go_wp2_with (first | (go_at_call 78; refine (MayR_of _ _ _ _ h0 h1 hk hs).mono ?_; rintro e w1 ⟨rfl, hb⟩; obtain ⟨hc, hf⟩ := bcell hb))
  go_ret
  exact ⟨ret_int R.out, (((Below.refl _ _).alloc (Nat.le_refl _) _).alloc (by simp) _).trans (hb.mono (by simp; omega))⟩
theorem below_box2 {w w1 : World} {x y : Obj} (hb : Below ((w.alloc x).alloc y).heap.size ((w.alloc x).alloc y) w1) : Below w.heap.size w w1 :=
  (((Below.refl _ _).alloc (Nat.le_refl _) _).alloc (by simp) _).trans (hb.mono (by simp; omega))
theorem below_lt2 {w w1 : World} {x y : Obj} (hb : Below ((w.alloc x).alloc y).heap.size ((w.alloc x).alloc y) w1) : w.heap.size < w1.heap.size ∧ w.heap.size + 1 < w1.heap.size := by have := hb.size; simp at this; omega
set_option maxHeartbeats 1000000 in
theorem FitsR_c (h0 : 0 ≤ b) (h1 : b < 18446744073709551616) (hk : 0 ≤ k ∧ k < 256) (hs : s.size ≤ maxLen) (c : may3 k b s = true) :
    Calls Tryz.prog 71 #[T k false lo hi mx arr fr to bl, V k b s] w fun e w' => e = .returned (.int .i64 (fitsF k b s k false lo hi mx)) ∧ Below w.heap.size w w' := by
  have R : Hid (fitsF k b s k false lo hi mx = if k = 19 ∧ 1 ≤ mx ∧ mx < s.size then 5 else 0) := fitsF_c1 k b s false lo hi mx c (by simp)
  go_enter Tryz.func71, Tryz.ntmps71
  go_wp2_with (first | (go_at_call 78; refine (MayR_of _ _ _ _ h0 h1 hk hs).mono ?_; rintro e w1 ⟨rfl, hb⟩; obtain ⟨hc, hf⟩ := bcell hb))
  all_goals
    go_ret
    refine ⟨ret_int ?_, below_box2 hb⟩
    refine fit_end c R.out ?_
    split <;> omega
set_option maxHeartbeats 1000000 in
theorem FitsR_d (h0 : 0 ≤ b) (h1 : b < 18446744073709551616) (hk : 0 ≤ k ∧ k < 256) (hs : s.size ≤ maxLen) (c : may3 k b s = true) (g1 : -9223372036854775808 ≤ lo ∧ lo < 9223372036854775808) (g2 : -9223372036854775808 ≤ hi ∧ hi < 9223372036854775808) (i : ¬ (2 ≤ k ∧ k ≤ 9)) :
    Calls Tryz.prog 71 #[T k true lo hi mx arr fr to bl, V k b s] w fun e w' => e = .returned (.int .i64 (fitsF k b s k true lo hi mx)) ∧ Below w.heap.size w w' := by
  have R : Hid (fitsF k b s k true lo hi mx = if k = 19 ∧ 1 ≤ mx ∧ mx < s.size then 5 else 0) := fitsF_c1 k b s true lo hi mx c (by simp only [true_and]; exact fun h => i h.1)
  have I : Hid (¬ (2 ≤ k ∧ k ≤ 9)) := i
  clear i
  go_enter Tryz.func71, Tryz.ntmps71
  go_wp2_with (first | (go_at_call 78; refine (MayR_of _ _ _ _ h0 h1 hk hs).mono ?_; rintro e w1 ⟨rfl, hb⟩; obtain ⟨hc, hf⟩ := bcell hb; obtain ⟨z0, z1⟩ := below_lt2 hb) | (go_at_call 94; refine (IntegerR_of _ _ false (by symm; simpa using I.out)).mono ?_; rintro e w2 ⟨rfl, rfl⟩) | (go_at_call 95; refine (NumberR_of _ _ _ _ h0 h1 hk hs).mono ?_; rintro e w2 ⟨rfl, hb2⟩; obtain ⟨hc2, hf2⟩ := bcell hb2))
  all_goals
    go_ret
    refine ⟨ret_int ?_, below_box2 hb⟩
    refine fit_end c R.out ?_
    split <;> omega
set_option maxHeartbeats 1000000 in
theorem FitsR_e (h0 : 0 ≤ b) (h1 : b < 18446744073709551616) (hk : 0 ≤ k ∧ k < 256) (hs : s.size ≤ maxLen) (c : may3 k b s = true) (g1 : -9223372036854775808 ≤ lo ∧ lo < 9223372036854775808) (g2 : -9223372036854775808 ≤ hi ∧ hi < 9223372036854775808) (i : 2 ≤ k ∧ k ≤ 9) (n : numOk k b s = true) :
    Calls Tryz.prog 71 #[T k true lo hi mx arr fr to bl, V k b s] w fun e w' => e = .returned (.int .i64 (fitsF k b s k true lo hi mx)) ∧ Below w.heap.size w w' := by
  have I : Hid (2 ≤ k ∧ k ≤ 9) := i
  clear i
  go_enter Tryz.func71, Tryz.ntmps71
  go_wp2_with (first | (go_at_call 78; refine (MayR_of _ _ _ _ h0 h1 hk hs).mono ?_; rintro e w1 ⟨rfl, hb⟩; obtain ⟨hc, hf⟩ := bcell hb; obtain ⟨z0, z1⟩ := below_lt2 hb) | (go_at_call 94; refine (IntegerR_of _ _ true (by symm; simpa using I.out)).mono ?_; rintro e w2 ⟨rfl, rfl⟩) | (go_at_call 95; refine (NumberR_of _ _ _ _ h0 h1 hk hs).mono ?_; rintro e w2 ⟨rfl, hb2⟩; obtain ⟨hc2, hf2⟩ := bcell hb2))
  all_goals
    go_ret
    refine ⟨ret_int ?_, (below_box2 hb).trans (hb2.mono (by omega))⟩
    first | (exfalso; have := I.out; omega) | exact fit_e0 h0 h1 I.out c n ‹_› | exact fit_e3 h0 h1 I.out c n (by omega)
set_option maxHeartbeats 1000000 in
theorem FitsR_f (h0 : 0 ≤ b) (h1 : b < 18446744073709551616) (hk : 0 ≤ k ∧ k < 256) (hs : s.size ≤ maxLen) (c : may3 k b s = true) (g1 : -9223372036854775808 ≤ lo ∧ lo < 9223372036854775808) (g2 : -9223372036854775808 ≤ hi ∧ hi < 9223372036854775808) (i : 2 ≤ k ∧ k ≤ 9) (n : numOk k b s = false) :
    Calls Tryz.prog 71 #[T k true lo hi mx arr fr to bl, V k b s] w fun e w' => e = .returned (.int .i64 (fitsF k b s k true lo hi mx)) ∧ Below w.heap.size w w' := by
  have I : Hid (2 ≤ k ∧ k ≤ 9) := i
  clear i
  go_enter Tryz.func71, Tryz.ntmps71
  go_wp2_with (first | (go_at_call 78; refine (MayR_of _ _ _ _ h0 h1 hk hs).mono ?_; rintro e w1 ⟨rfl, hb⟩; obtain ⟨hc, hf⟩ := bcell hb; obtain ⟨z0, z1⟩ := below_lt2 hb) | (go_at_call 94; refine (IntegerR_of _ _ true (by symm; simpa using I.out)).mono ?_; rintro e w2 ⟨rfl, rfl⟩) | (go_at_call 95; refine (NumberR_of _ _ _ _ h0 h1 hk hs).mono ?_; rintro e w2 ⟨rfl, hb2⟩; obtain ⟨hc2, hf2⟩ := bcell hb2))
  all_goals
    go_ret
    refine ⟨ret_int ?_, (below_box2 hb).trans (hb2.mono (by omega))⟩
    exact (fitsF_c2 k b s lo hi mx c I.out (by have := num_big I.out c n; omega)).symm
theorem FitsR_of (h0 : 0 ≤ b) (h1 : b < 18446744073709551616) (hk : 0 ≤ k ∧ k < 256) (hs : s.size ≤ maxLen) (g1 : -9223372036854775808 ≤ lo ∧ lo < 9223372036854775808) (g2 : -9223372036854775808 ≤ hi ∧ hi < 9223372036854775808) :
    Calls Tryz.prog 71 #[T tk sub lo hi mx arr fr to bl, V k b s] w fun e w' => e = .returned (.int .i64 (fitsF k b s tk sub lo hi mx)) ∧ Below w.heap.size w w' := by
  cases c : may3 k b s
  · exact FitsR_a tk sub lo hi mx arr fr to bl k b s w h0 h1 hk hs c
  by_cases d : k = tk
  · subst d
    cases sub
    · exact FitsR_c lo hi mx arr fr to bl k b s w h0 h1 hk hs c
    by_cases i : 2 ≤ k ∧ k ≤ 9
    · cases n : numOk k b s
      · exact FitsR_f lo hi mx arr fr to bl k b s w h0 h1 hk hs c g1 g2 i n
      · exact FitsR_e lo hi mx arr fr to bl k b s w h0 h1 hk hs c g1 g2 i n
    · exact FitsR_d lo hi mx arr fr to bl k b s w h0 h1 hk hs c g1 g2 i
  · exact FitsR_b tk sub lo hi mx arr fr to bl k b s w h0 h1 hk hs c (by simpa using d)
end
end Go.Proofs.YtpcjnhffpkpchaaGreat
