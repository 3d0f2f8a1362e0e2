/- What times.Print and the document's answer of every value; no statement of the seat is proved here. -/
import Derived.Test.YtpdnlojennhmpaaGreatDoorPrU
namespace Go.Proofs.YtpdnlojennhmpaaGreatDoor
set_option linter.unusedVariables false
open Go.RowKit
section
variable (k b : Int) (s : ByteArray) (w : World)
theorem tw64 (b : Int) : IntKind.i64.wrap b = wrap64 b := by
  rw [IntKind.wrap_i64]; unfold wrap64; omega
theorem TPrint_of (hP : Pow w) (hU : PU w) (hT : Tab w) (h0 : 0 ≤ b) (h1 : b < 18446744073709551616) (hk : 0 ≤ k ∧ k < 256) (hs : s.size ≤ maxLen) :
    Calls Tryz.prog 4 #[V k b s] w fun e w' => e = .returned (.string (tpS k b s)) ∧ Below w.heap.size w w' := by
  have M : Hid (MayT k b s (may3 k b s)) := fun w => May_of k b s w h0 h1 hk hs
  have wb : -9223372036854775808 ≤ wrap64 b ∧ wrap64 b < 9223372036854775808 := by unfold wrap64; omega
  unfold tpS
  cases m : may3 k b s with
  | false => rw [m] at M; rw [if_pos rfl]; exact tp_no k b s w M
  | true =>
    rw [m] at M
    rw [if_neg (by simp)]
    by_cases k14 : k = 14
    · subst k14; rw [if_pos rfl]
      exact tp_14 b s w _ (by have := tmS_size (wrap64 b) wb.1 wb.2; omega) (wrap64 b) (tw64 b) (fun w1 hb => tmS_of (wrap64 b) wb.1 wb.2 w1 (pow_below hP hb) (hU.next hb)) M
    rw [if_neg k14]
    by_cases k15 : k = 15
    · subst k15; rw [if_pos rfl]
      have bb : b < 7258118400000000000 := by simp [may3, mayW] at m; omega
      exact tp_15 b s w _ (by have := dateS_size (b / 86400000000000) (by omega); omega) (fun w1 hb => printDate_of b _ h0 h1 rfl (by omega) w1 (pow_below hP hb) (tabB hT hb)) M
    rw [if_neg k15]
    by_cases k16 : k = 16
    · subst k16; rw [if_pos rfl]
      have bb : b < 86400000000000 := by simp [may3, mayW] at m; omega
      refine tp_16 b s w _ (by have := clS_size b.toNat (by omega); omega) (fun w1 hb => ?_) M
      have := printClock_of b.toNat (by omega) w1 (pow_below hP hb)
      rwa [show ((b.toNat : Nat) : Int) = b by omega] at this
    rw [if_neg k16]
    by_cases k17 : k = 17
    · subst k17; rw [if_pos rfl]
      have bb : b < 7258118400000000000 := by simp [may3, mayW] at m; omega
      refine tp_17 b s w h0 h1 _ _ (by have := dateS_size (b / 86400000000000) (by omega); omega) (by have := clS_size (b % 86400000000000).toNat (by omega); omega) (fun w1 hb => printDate_of b _ h0 h1 rfl (by omega) w1 (pow_below hP hb) (tabB hT hb)) (fun w1 hb => ?_) M
      have := printClock_of (b % 86400000000000).toNat (by omega) w1 (pow_below hP hb)
      rwa [show (((b % 86400000000000).toNat : Nat) : Int) = b % 86400000000000 by omega] at this
    rw [if_neg k17]
    exact tp_oth k b s w ⟨k14, k15, k16, k17⟩ M
end
end Go.Proofs.YtpdnlojennhmpaaGreatDoor
