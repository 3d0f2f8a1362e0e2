/- What value.Number answers for a BOOL, an INT or a TIME that may be; no statement of the seat is proved here. -/
import Derived.Test.YtkanhbokdjppoaaGreatDoorIntV
namespace Go.Proofs.YtkanhbokdjppoaaGreatDoor
set_option linter.unusedVariables false
open Go.RowKit
theorem lt_mem' {w1 w2 : World} {h : Nat} (hb : Below w1.heap.size w1 w2) (z : h < w1.heap.size) : h < w2.heap.size := Nat.lt_of_lt_of_le z hb.size
theorem below_lt1' {w w1 : World} {x : Obj} (hb : Below (w.alloc x).heap.size (w.alloc x) w1) : w.heap.size < w1.heap.size := by have := hb.size; simp at this; omega
/-- The kinds of a block's cells. -/
abbrev K3 (k : Int) : Prop := k = 1 ∨ k = 3 ∨ k = 14
section
variable (k b : Int) (s : ByteArray) (w : World)
set_option maxHeartbeats 1000000 in
theorem Number_neg (h0 : 0 ≤ b) (h1 : b < 18446744073709551616) (hk : 0 ≤ k ∧ k < 256) (hs : s.size ≤ maxLen) (c : may3 k b s = true) (d : 1 ≤ k ∧ k ≤ 17) (z : Int) (W : Hid (wrap64 b = z)) (e : num k b = z) (n : z < 0) (g : -9223372036854775808 ≤ z) :
    Calls Tryz.prog 154 #[V k b s] w fun e w' => e = .returned (.tuple #[.int .i64 z, .bool true]) ∧ Below w.heap.size w w' := by
  have D : Hid (1 ≤ k ∧ k ≤ 17) := d
  have N : Hid (NB (num k b) = .agg #[.bool true, .int .u64 z.natAbs]) := by show _ = _; rw [e]; exact NB_raw_neg n
  clear d e
  go_enter Tryz.func154, Tryz.ntmps154
  go_wp2_with (first | (go_at_call 52; refine (May_of _ _ _ _ h0 h1 hk hs).mono ?_; rintro e w1 ⟨rfl, hb⟩; obtain ⟨hc, hf⟩ := bcell hb; have hz := below_lt1' hb) | (go_at_call 155; refine (hasNumbers_is _ _ true hk (by symm; simpa using D.out)).mono ?_; rintro e w' ⟨rfl, rfl⟩) | (go_at_call 147; refine (numberOf_is _ _ _ _ h0 h1 N.out).mono ?_; rintro e w2 ⟨rfl, hb2⟩; obtain ⟨hc2, hf2⟩ := bcell hb2; have hz2 := lt_mem' hb2 hz))
  go_ret2
  exact ⟨by rw [W.out]; rfl, ((((Below.refl _ _).alloc (Nat.le_refl _) _).trans (hb.mono (by simp))).trans (hb2.mono (Nat.le_of_lt hz))).alloc (Nat.le_of_lt hz2) _⟩
set_option maxHeartbeats 1000000 in
theorem Number_pos (h0 : 0 ≤ b) (h1 : b < 18446744073709551616) (hk : 0 ≤ k ∧ k < 256) (hs : s.size ≤ maxLen) (c : may3 k b s = true) (d : 1 ≤ k ∧ k ≤ 17) (z : Int) (W : Hid (wrap64 b = z)) (e : num k b = z) (n : 0 ≤ z) (g : z ≤ 9223372036854775807) :
    Calls Tryz.prog 154 #[V k b s] w fun e w' => e = .returned (.tuple #[.int .i64 z, .bool true]) ∧ Below w.heap.size w w' := by
  have D : Hid (1 ≤ k ∧ k ≤ 17) := d
  have N : Hid (NB (num k b) = .agg #[.bool false, .int .u64 z]) := by show _ = _; rw [e]; exact NB_raw_pos n
  clear d e
  go_enter Tryz.func154, Tryz.ntmps154
  go_wp2_with (first | (go_at_call 52; refine (May_of _ _ _ _ h0 h1 hk hs).mono ?_; rintro e w1 ⟨rfl, hb⟩; obtain ⟨hc, hf⟩ := bcell hb; have hz := below_lt1' hb) | (go_at_call 155; refine (hasNumbers_is _ _ true hk (by symm; simpa using D.out)).mono ?_; rintro e w' ⟨rfl, rfl⟩) | (go_at_call 147; refine (numberOf_is _ _ _ _ h0 h1 N.out).mono ?_; rintro e w2 ⟨rfl, hb2⟩; obtain ⟨hc2, hf2⟩ := bcell hb2; have hz2 := lt_mem' hb2 hz))
  go_ret2
  exact ⟨by rw [W.out]; rfl, ((((Below.refl _ _).alloc (Nat.le_refl _) _).trans (hb.mono (by simp))).trans (hb2.mono (Nat.le_of_lt hz))).alloc (Nat.le_of_lt hz2) _⟩
/-- The number of a BOOL, an INT or a TIME that may be. -/
def nmV (k b : Int) : Int := if k = 1 then b else wrap64 b
theorem Number_ok (h0 : 0 ≤ b) (h1 : b < 18446744073709551616) (hs : s.size ≤ maxLen) (c : may3 k b s = true) (d : K3 k) :
    Calls Tryz.prog 154 #[V k b s] w fun e w' => e = .returned (.tuple #[.int .i64 (nmV k b), .bool true]) ∧ Below w.heap.size w w' := by
  have bd := wrap64_bd b
  rcases d with rfl | rfl | rfl
  · have m : b ≤ 1 := by
      have := c; unfold may3 at this; simp [mayW] at this; omega
    have e : wrap64 b = b := by unfold wrap64; omega
    exact Number_pos 1 b s w h0 h1 ⟨by omega, by omega⟩ hs c ⟨by omega, by omega⟩ b e (num_u (by omega)) h0 (by omega)
  all_goals
    by_cases n : wrap64 b < 0
    · exact Number_neg _ b s w h0 h1 ⟨by omega, by omega⟩ hs c ⟨by omega, by omega⟩ (wrap64 b) rfl (num_s (by omega)) n (by omega)
    · exact Number_pos _ b s w h0 h1 ⟨by omega, by omega⟩ hs c ⟨by omega, by omega⟩ (wrap64 b) rfl (num_s (by omega)) (by omega) (by omega)
end
end Go.Proofs.YtkanhbokdjppoaaGreatDoor
