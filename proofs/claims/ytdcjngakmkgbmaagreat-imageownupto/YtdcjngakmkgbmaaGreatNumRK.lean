/- What the document's Number answers, for every value; no statement of the seat is proved here. -/
import Derived.Test.YtdcjngakmkgbmaaGreatKoA4
namespace Go.Proofs.YtdcjngakmkgbmaaGreat
set_option linter.unusedVariables false
open Go.RowKit
/-- Has a value a number that an int has? -/
def numOk (k b : Int) (s : ByteArray) : Bool := may3 k b s && decide (1 ≤ k ∧ k ≤ 17) && !decide ((k = 9 ∨ k = 13) ∧ 9223372036854775808 ≤ b)
/-- What Number tells. -/
abbrev NV (k b : Int) (s : ByteArray) : Value := .tuple #[.int .i64 (if numOk k b s then wrap64 b else 0), .bool (numOk k b s)]
theorem NV_t {k b : Int} {s : ByteArray} (h : numOk k b s = true) : Ending.returned (.tuple #[.int .i64 (wrap64 b), .bool true]) = .returned (NV k b s) := by simp [NV, h]
theorem NV_f {k b : Int} {s : ByteArray} (h : numOk k b s = false) : Ending.returned (.tuple #[.int .i64 0, .bool false]) = .returned (NV k b s) := by simp [NV, h]
theorem numOk_f {k b : Int} {s : ByteArray} (h : may3 k b s = false) : numOk k b s = false := by simp [numOk, h]
theorem numOk_x {k b : Int} {s : ByteArray} (h : ¬ (1 ≤ k ∧ k ≤ 17)) : numOk k b s = false := by simp [numOk, h]
theorem numOk_t {k b : Int} {s : ByteArray} (c : may3 k b s = true) (h : 1 ≤ k ∧ k ≤ 17) (n : ¬ ((k = 9 ∨ k = 13) ∧ 9223372036854775808 ≤ b)) : numOk k b s = true := by simp only [numOk, c, h, n]; simp
theorem numOk_b {k b : Int} {s : ByteArray} (n : ((k = 9 ∨ k = 13) ∧ 9223372036854775808 ≤ b)) : numOk k b s = false := by simp [numOk, n]
set_option maxHeartbeats 1000000 in
theorem NumberR_f (k b : Int) (s : ByteArray) (w : World) (h0 : 0 ≤ b) (h1 : b < 18446744073709551616) (hk : 0 ≤ k ∧ k < 256) (hs : s.size ≤ maxLen) (c : may3 k b s = false) :
    Calls Tryz.prog 112 #[V k b s] w fun e w' => e = .returned (NV k b s) ∧ Below w.heap.size w w' := by
  have R := NV_f (numOk_f c)
  rcases kinds k hk with rfl | rfl | rfl | rfl | rfl | rfl | rfl | rfl | rfl | rfl | rfl | rfl | rfl | rfl | rfl | rfl | rfl | rfl | rfl | rfl | hk2
  all_goals
    have R' : Hid _ := R
    clear R
    go_enter Tryz.func112, Tryz.ntmps112
    go_wp2_with (first | (go_at_call 86; refine (MayR_of _ _ _ _ h0 h1 hk hs).mono ?_; rintro e w1 ⟨rfl, hb⟩; obtain ⟨hc, hf⟩ := bcell hb) | go_in)
    go_ret2
    exact ⟨R'.out, ((Below.refl _ _).alloc (Nat.le_refl _) _).trans (hb.mono (by simp))⟩
theorem below_lt1 {w w1 : World} {x : Obj} (hb : Below (w.alloc x).heap.size (w.alloc x) w1) : w.heap.size < w1.heap.size := by have := hb.size; simp at this; omega
theorem big_yes {k b : Int} (e : k = 9 ∨ k = 13) (h : (b / 9223372036854775808 == 1) = true) : (k = 9 ∨ k = 13) ∧ 9223372036854775808 ≤ b := by
  simp only [beq_iff_eq] at h; exact ⟨e, by omega⟩
theorem big_no {k b : Int} (h0 : 0 ≤ b) (h1 : b < 18446744073709551616) (h : (b / 9223372036854775808 == 1) = false) : ¬ ((k = 9 ∨ k = 13) ∧ 9223372036854775808 ≤ b) := by
  simp only [beq_eq_false_iff_ne, ne_eq] at h; omega
set_option maxHeartbeats 1000000 in
theorem NumberR_t (k b : Int) (s : ByteArray) (w : World) (h0 : 0 ≤ b) (h1 : b < 18446744073709551616) (hk : 0 ≤ k ∧ k < 256) (hs : s.size ≤ maxLen) (c : may3 k b s = true) :
    Calls Tryz.prog 112 #[V k b s] w fun e w' => e = .returned (NV k b s) ∧ Below w.heap.size w w' := by
  rcases kinds k hk with rfl | rfl | rfl | rfl | rfl | rfl | rfl | rfl | rfl | rfl | rfl | rfl | rfl | rfl | rfl | rfl | rfl | rfl | rfl | rfl | hk2
  all_goals
    go_enter Tryz.func112, Tryz.ntmps112
    go_wp2_with (first | (go_at_call 86; refine (MayR_of _ _ _ _ h0 h1 hk hs).mono ?_; rintro e w1 ⟨rfl, hb⟩; obtain ⟨hc, hf⟩ := bcell hb; have hz := below_lt1 hb) | go_in)
    all_goals
      go_ret2
      refine ⟨?_, ?_⟩
      · first | exact NV_f (numOk_x (by omega)) | exact NV_t (numOk_t c (by omega) (by omega)) | exact NV_t (numOk_t c (by omega) (big_no h0 h1 ‹_›)) | exact NV_f (numOk_b (big_yes (by omega) ‹_›))
      · first | exact ((Below.refl _ _).alloc (Nat.le_refl _) _).trans (hb.mono (by simp)) | exact (((Below.refl _ _).alloc (Nat.le_refl _) _).trans (hb.mono (by simp))).alloc (by have := hb.size; simp at this; omega) _
theorem NumberR_of (k b : Int) (s : ByteArray) (w : World) (h0 : 0 ≤ b) (h1 : b < 18446744073709551616) (hk : 0 ≤ k ∧ k < 256) (hs : s.size ≤ maxLen) :
    Calls Tryz.prog 112 #[V k b s] w fun e w' => e = .returned (NV k b s) ∧ Below w.heap.size w w' := by
  cases c : may3 k b s
  · exact NumberR_f k b s w h0 h1 hk hs c
  · exact NumberR_t k b s w h0 h1 hk hs c
end Go.Proofs.YtdcjngakmkgbmaaGreat
