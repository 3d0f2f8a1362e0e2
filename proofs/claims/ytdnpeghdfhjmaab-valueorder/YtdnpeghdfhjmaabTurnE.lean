/- What the document's Turn answers is what value.Turn answers; no statement of the seat is proved here. -/
import Derived.Test.YtdnpeghdfhjmaabTurnR
namespace Go.Proofs.Ytdnpeghdfhjmaab
set_option linter.unusedVariables false
open Go.RowKit
theorem text_nil {k b : Int} {s : ByteArray} (c : may3 k b s = true) (h : ¬ k = 19) : s = E0 := (toList_nil_iff_emptyBytes s).1 (may_w c h).2
theorem may3_E (k b : Int) (h : ¬ k = 19) : may3 k b E0 = mayW k b := by
  have e : E0.toList = [] := (toList_nil_iff_emptyBytes E0).2 rfl
  simp [may3, h, e]
theorem fitOk_over (k b : Int) (d : 2 ≤ k ∧ k ≤ 5 ∨ k = 14) (f : wrap64 b = -9223372036854775808) : fitOk k (-num k b) = false := by
  rw [num_s d, f]
  have e : num k (9223372036854775808 % 18446744073709551616) = -9223372036854775808 := by rw [num_s d]; unfold wrap64; omega
  have e2 : (- -9223372036854775808 : Int) = 9223372036854775808 := by decide
  rw [e2]
  simp only [fitOk, e]; simp
theorem fitOk_fine (k b : Int) (d : 2 ≤ k ∧ k ≤ 5 ∨ k = 14) (f : ¬ wrap64 b = -9223372036854775808) : fitOk k (-num k b) = mayW k ((-num k b) % 18446744073709551616) := by
  have bd := wrap64_bd b
  rw [num_s d]
  have e : num k (-wrap64 b % 18446744073709551616) = -wrap64 b := by
    rw [num_s d]
    generalize wrap64 b = a at *
    unfold wrap64; omega
  unfold fitOk
  rw [e, may3_E k _ (by omega)]
  simp
theorem flip_lo (n : Nat) (h : n < 18446744073709551616) : (n ^^^ 9223372036854775808) % 9223372036854775808 = n % 9223372036854775808 := by
  have : (n ^^^ 2 ^ 63) % 2 ^ 63 = n % 2 ^ 63 := by
    rw [Nat.xor_mod_two_pow]; simp
  exact this
theorem fnan_flip (b : Int) (h0 : 0 ≤ b) (h1 : b < 18446744073709551616) : fnan (flipN b) = fnan b.toNat := by
  unfold fnan flipN
  rw [flip_lo b.toNat (by omega)]
theorem flip_bits (b : Int) (h0 : 0 ≤ b) (h1 : b < 18446744073709551616) : bits .xor .u64 b 9223372036854775808 = (flipN b : Int) := by
  rw [u64_xor b _ h0 h1 (by omega) (by omega)]; rfl
section
variable (op k b : Int) (s : ByteArray) (w : World)
theorem TurnR_of (h0 : 0 ≤ b) (h1 : b < 18446744073709551616) (hk : 0 ≤ k ∧ k < 256) (hs : s.size ≤ maxLen) :
    Calls Try.prog 8 #[.int .i64 op, V k b s] w fun e w' => e = .returned (turnR op k b s) ∧ Below w.heap.size w w' := by
  unfold turnR
  cases c : may3 k b s
  · rw [if_pos rfl]; exact TurnR_x op k b s w h0 h1 hk hs c
  rw [if_neg (by simp)]
  by_cases o1 : op = 15
  · subst o1
    by_cases d : 2 ≤ k ∧ k ≤ 5 ∨ k = 14
    · rw [if_pos ⟨rfl, d⟩]
      by_cases f : wrap64 b = -9223372036854775808
      · rw [fitOk_over k b d f, if_neg (by simp)]
        rcases d with ⟨d1, d2⟩ | rfl
        · exact TurnR_over_s k b s w h0 h1 hk hs c d1 d2 f
        · exact TurnR_over_t b s w h0 h1 hk hs c f
      · have e : IntKind.u64.wrap (-wrap64 b) = (-num k b) % 18446744073709551616 := by rw [num_s d, IntKind.wrap_u64]
        rw [fitOk_fine k b d f, ← e]
        cases m : mayW k (IntKind.u64.wrap (-wrap64 b))
        · rw [if_neg (by simp)]
          rcases d with ⟨d1, d2⟩ | rfl
          · exact TurnR_no_s k b s w h0 h1 hk hs c d1 d2 f m
          · exact TurnR_no_t b s w h0 h1 hk hs c f m
        · rw [if_pos rfl]
          rcases d with ⟨d1, d2⟩ | rfl
          · exact TurnR_yes_s k b s w h0 h1 hk hs c d1 d2 f m
          · exact TurnR_yes_t b s w h0 h1 hk hs c f m
    rw [if_neg (fun h => d h.2)]
    by_cases e : k = 18
    · subst e
      rw [if_pos ⟨rfl, rfl⟩]
      obtain rfl := text_nil c (by omega)
      by_cases n : b = 9221120237041090561
      · subst n
        have hn : fnan (flipN 9221120237041090561) = true := by rw [fnan_flip _ (by omega) (by omega)]; decide
        rw [lrealB_t hn]
        exact TurnR_f1 E0 w hs c
      · have hm := (may_w c (by omega)).1
        rw [mw18] at hm
        have hf : fnan b.toNat = false := by simpa [n] using hm
        have hn : fnan (flipN b) = false := by rw [fnan_flip b h0 h1]; exact hf
        rw [lrealB_f hn, ← flip_bits b h0 h1]
        exact TurnR_f2 b E0 w h0 h1 hs c (by simpa using n)
    · rw [if_neg (fun h => e h.2), if_neg (by omega)]
      exact TurnR_z k b s w h0 h1 hk hs c ⟨fun h => d (.inl h), fun h => d (.inr h), e⟩
  · rw [if_neg (fun h => o1 h.1), if_neg (fun h => o1 h.1)]
    by_cases o2 : op = 16
    · subst o2
      by_cases d : k = 1 ∨ 10 ≤ k ∧ k ≤ 13
      · rw [if_pos ⟨rfl, d⟩]
        obtain rfl := text_nil c (by omega)
        have m := (may_w c (by omega)).1
        have : k = 1 ∨ k = 10 ∨ k = 11 ∨ k = 12 ∨ k = 13 := by omega
        rcases this with rfl | rfl | rfl | rfl | rfl
        · rw [mw1] at m; simp at m; exact TurnR_n1 b E0 w h0 (by omega) hs c
        · rw [mw10] at m; simp at m; exact TurnR_n10 b E0 w h0 (by omega) hs c
        · rw [mw11] at m; simp at m; exact TurnR_n11 b E0 w h0 (by omega) hs c
        · rw [mw12] at m; simp at m; exact TurnR_n12 b E0 w h0 (by omega) hs c
        · exact TurnR_n13 b E0 w h0 (by omega) hs c
      · rw [if_neg (fun h => d h.2)]
        exact TurnR_u k b s w h0 h1 hk hs c ⟨fun h => d (.inl h), fun h => d (.inr h)⟩
    · rw [if_neg (fun h => o2 h.1)]
      exact TurnR_y op k b s w h0 h1 hk hs c (by simpa using o1) (by simpa using o2)
end
end Go.Proofs.Ytdnpeghdfhjmaab
