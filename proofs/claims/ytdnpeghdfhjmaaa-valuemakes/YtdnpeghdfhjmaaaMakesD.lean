/- What value.Number and both Floats answer, for every value; no statement of the seat is proved here. -/
import Derived.Test.YtdnpeghdfhjmaaaMakesC
import Derived.Test.YtdnpeghdfhjmaaaFitted
namespace Go.Proofs.Ytdnpeghdfhjmaaa
set_option linter.unusedVariables false
open Go.RowKit
theorem num_small {k b : Int} {s : ByteArray} (h0 : 0 ≤ b) (h1 : b < 18446744073709551616) (c : may3 k b s = true) (d : 1 ≤ k ∧ k ≤ 17) (h : num k b ≤ 9223372036854775807) : numOk k b s = true := by
  refine numOk_t c d ?_
  rintro ⟨e, g⟩
  rw [num_u (by omega)] at h
  omega
theorem num_great {k b : Int} {s : ByteArray} (h0 : 0 ≤ b) (h1 : b < 18446744073709551616) (c : may3 k b s = true) (d : 1 ≤ k ∧ k ≤ 17) (h : ¬ num k b ≤ 9223372036854775807) : numOk k b s = false := by
  refine numOk_b ?_
  have m := (may_w c (by omega)).1
  by_cases s : 2 ≤ k ∧ k ≤ 5 ∨ k = 14
  · rw [num_s s] at h; have := wrap64_bd b; omega
  · rw [num_u s] at h
    have : k = 1 ∨ k = 6 ∨ k = 7 ∨ k = 8 ∨ k = 9 ∨ k = 10 ∨ k = 11 ∨ k = 12 ∨ k = 13 ∨ k = 15 ∨ k = 16 ∨ k = 17 := by omega
    rcases this with rfl | rfl | rfl | rfl | rfl | rfl | rfl | rfl | rfl | rfl | rfl | rfl
    · rw [mw1] at m; simp at m; omega
    · rw [mw6] at m; simp at m; omega
    · rw [mw7] at m; simp at m; omega
    · rw [mw8] at m; simp at m; omega
    · omega
    · rw [mw10] at m; simp at m; omega
    · rw [mw11] at m; simp at m; omega
    · rw [mw12] at m; simp at m; omega
    · omega
    · by_cases g : b < 7258118400000000000
      · omega
      · rw [mw15f b g] at m; cases m
    · rw [mw16] at m; simp at m; omega
    · rw [mw17] at m; simp at m; omega
section
variable (k b : Int) (s : ByteArray) (w : World)
set_option maxHeartbeats 1000000 in
theorem Number_x (h0 : 0 ≤ b) (h1 : b < 18446744073709551616) (hk : 0 ≤ k ∧ k < 256) (hs : s.size ≤ maxLen) (c : may3 k b s = false) : Calls Try.prog 16 #[V k b s] w fun e w' => e = .returned (NV k b s) ∧ Below w.heap.size w w' := by
  have R : Hid _ := NV_f (numOk_f c)
  go_enter Try.func16, Try.ntmps16
  go_wp2_with (first | (go_at_call 22; refine (May_of _ _ _ _ h0 h1 hk hs).mono ?_; rintro e w1 ⟨rfl, hb⟩; obtain ⟨hc, hf⟩ := bcell hb; have hz := below_lt1 hb))
  go_ret2
  exact ⟨R.out, ((Below.refl _ _).alloc (Nat.le_refl _) _).trans (hb.mono (by simp))⟩
set_option maxHeartbeats 1000000 in
theorem Number_y (h0 : 0 ≤ b) (h1 : b < 18446744073709551616) (hk : 0 ≤ k ∧ k < 256) (hs : s.size ≤ maxLen) (c : may3 k b s = true) (d : ¬ (1 ≤ k ∧ k ≤ 17)) : Calls Try.prog 16 #[V k b s] w fun e w' => e = .returned (NV k b s) ∧ Below w.heap.size w w' := by
  have R : Hid _ := NV_f (numOk_x (b := b) (s := s) d)
  have D : Hid (¬ (1 ≤ k ∧ k ≤ 17)) := d
  clear d
  go_enter Try.func16, Try.ntmps16
  go_wp2_with (first | (go_at_call 22; refine (May_of _ _ _ _ h0 h1 hk hs).mono ?_; rintro e w1 ⟨rfl, hb⟩; obtain ⟨hc, hf⟩ := bcell hb; have hz := below_lt1 hb) | (go_at_call 30; refine (hasNumbers_is _ _ false hk (by symm; simpa using D.out)).mono ?_; rintro e w' ⟨rfl, rfl⟩))
  go_ret2
  exact ⟨R.out, ((Below.refl _ _).alloc (Nat.le_refl _) _).trans (hb.mono (by simp))⟩
theorem lt_mem {w1 w2 : World} {h : Nat} (hb : Below w1.heap.size w1 w2) (z : h < w1.heap.size) : h < w2.heap.size := Nat.lt_of_lt_of_le z hb.size
set_option maxHeartbeats 1000000 in
theorem Number_n (h0 : 0 ≤ b) (h1 : b < 18446744073709551616) (hk : 0 ≤ k ∧ k < 256) (hs : s.size ≤ maxLen) (c : may3 k b s = true) (d : 1 ≤ k ∧ k ≤ 17) (n : num k b < 0) : Calls Try.prog 16 #[V k b s] w fun e w' => e = .returned (NV k b s) ∧ Below w.heap.size w w' := by
  have R : Hid _ := NV_t (num_small h0 h1 c d (by omega))
  have D : Hid (1 ≤ k ∧ k ≤ 17) := d
  have N : Hid _ := NB_raw_neg n
  clear d n
  go_enter Try.func16, Try.ntmps16
  go_wp2_with (first | (go_at_call 22; refine (May_of _ _ _ _ h0 h1 hk hs).mono ?_; rintro e w1 ⟨rfl, hb⟩; obtain ⟨hc, hf⟩ := bcell hb; have hz := below_lt1 hb) | (go_at_call 30; refine (hasNumbers_is _ _ true hk (by symm; simpa using D.out)).mono ?_; rintro e w' ⟨rfl, rfl⟩) | (go_at_call 40; refine (numberOf_is _ _ _ _ h0 h1 N.out).mono ?_; rintro e w2 ⟨rfl, hb2⟩; obtain ⟨hc2, hf2⟩ := bcell hb2; have hz2 := lt_mem hb2 hz))
  go_ret2
  exact ⟨R.out, ((((Below.refl _ _).alloc (Nat.le_refl _) _).trans (hb.mono (by simp))).trans (hb2.mono (Nat.le_of_lt hz))).alloc (Nat.le_of_lt hz2) _⟩
set_option maxHeartbeats 1000000 in
theorem Number_p (h0 : 0 ≤ b) (h1 : b < 18446744073709551616) (hk : 0 ≤ k ∧ k < 256) (hs : s.size ≤ maxLen) (c : may3 k b s = true) (d : 1 ≤ k ∧ k ≤ 17) (m : Int) (e : num k b = m) (n : 0 ≤ m) : Calls Try.prog 16 #[V k b s] w fun e w' => e = .returned (NV k b s) ∧ Below w.heap.size w w' := by
  have D : Hid (1 ≤ k ∧ k ≤ 17) := d
  have N : Hid (NB (num k b) = .agg #[.bool false, .int .u64 m]) := by rw [e]; exact NB_raw_pos n
  have S : Hid (m ≤ 9223372036854775807 → numOk k b s = true) := fun h => num_small h0 h1 c d (by omega)
  have G : Hid (¬ m ≤ 9223372036854775807 → numOk k b s = false) := fun h => num_great h0 h1 c d (by omega)
  clear d e
  go_enter Try.func16, Try.ntmps16
  go_wp2_with (first | (go_at_call 22; refine (May_of _ _ _ _ h0 h1 hk hs).mono ?_; rintro e w1 ⟨rfl, hb⟩; obtain ⟨hc, hf⟩ := bcell hb; have hz := below_lt1 hb) | (go_at_call 30; refine (hasNumbers_is _ _ true hk (by symm; simpa using D.out)).mono ?_; rintro e w' ⟨rfl, rfl⟩) | (go_at_call 40; refine (numberOf_is _ _ _ _ h0 h1 N.out).mono ?_; rintro e w2 ⟨rfl, hb2⟩; obtain ⟨hc2, hf2⟩ := bcell hb2; have hz2 := lt_mem hb2 hz))
  all_goals
    go_ret2
    refine ⟨?_, ((((Below.refl _ _).alloc (Nat.le_refl _) _).trans (hb.mono (by simp))).trans (hb2.mono (Nat.le_of_lt hz))).alloc (Nat.le_of_lt hz2) _⟩
    first | exact NV_f (G.out (by omega)) | exact NV_t (S.out (by omega))
theorem Number_of (h0 : 0 ≤ b) (h1 : b < 18446744073709551616) (hk : 0 ≤ k ∧ k < 256) (hs : s.size ≤ maxLen) : Calls Try.prog 16 #[V k b s] w fun e w' => e = .returned (NV k b s) ∧ Below w.heap.size w w' := by
  cases c : may3 k b s
  · exact Number_x k b s w h0 h1 hk hs c
  by_cases d : 1 ≤ k ∧ k ≤ 17
  · by_cases n : num k b < 0
    · exact Number_n k b s w h0 h1 hk hs c d n
    · exact Number_p k b s w h0 h1 hk hs c d _ rfl (by omega)
  · exact Number_y k b s w h0 h1 hk hs c d
end
end Go.Proofs.Ytdnpeghdfhjmaaa
