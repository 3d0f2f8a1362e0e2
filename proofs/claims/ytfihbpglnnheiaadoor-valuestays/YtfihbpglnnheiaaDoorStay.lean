/- Whatever Reckon and Turn answer without a fault may be; no statement of the seat is proved here. -/
import Derived.Test.YtfihbpglnnheiaaDoorRecR
import Derived.Test.YtfihbpglnnheiaaDoorTurnBS
import Derived.Laws.FloatArith
import Derived.Laws.BitsAllLaws
namespace Go.Proofs.YtfihbpglnnheiaaDoor
set_option linter.unusedVariables false
open Go.RowKit
def StOk (v : Value) : Prop := ∃ k' b' s' f, v = .tuple #[V k' b' s', .int .i64 f] ∧ (0 ≤ b' ∧ b' < 18446744073709551616) ∧ (0 ≤ k' ∧ k' < 256) ∧ s'.size ≤ maxLen ∧ (f = 0 → may3 k' b' s' = true)
theorem st_fault (f : Int) (h : f ≠ 0) : StOk (.tuple #[V 0 0 E0, .int .i64 f]) := ⟨0, 0, E0, f, rfl, by omega, by omega, Nat.zero_le _, fun e => absurd e h⟩
theorem st_of (k b : Int) (hk : 0 ≤ k ∧ k < 256) (h : 0 ≤ b ∧ b < 18446744073709551616) (m : may3 k b E0 = true) : StOk (.tuple #[V k b E0, .int .i64 0]) := ⟨k, b, E0, 0, rfl, h, hk, Nat.zero_le _, fun _ => m⟩
theorem st_fit (k n : Int) (hk : 0 ≤ k ∧ k < 256) (c : fitOk k n = true) : StOk (.tuple #[V k (n % 18446744073709551616) E0, .int .i64 0]) := by
  refine st_of k _ hk (by omega) ?_
  unfold fitOk at c
  simp only [Bool.and_eq_true] at c
  exact c.1
theorem st_lreal (n : Nat) (h : n < 18446744073709551616) : StOk (.tuple #[V 18 (lrealB n) E0, .int .i64 0]) := by
  unfold lrealB
  cases c : fnan n
  · refine st_of 18 _ (by omega) (by simp; omega) ?_
    simp [may3, mayW, c]
  · refine st_of 18 _ (by omega) (by simp) ?_
    simp [may3, mayW]
theorem st_fl (op : Int) (x y : Nat) : StOk (.tuple #[V 18 (flB op x y) E0, .int .i64 0]) := by
  cases h : floatBits (flOp op) .f64 x y with
  | some r =>
    rw [flB_s h]
    have w := floatBits_wf h
    simp [Lit.wf] at w
    exact st_lreal r (by omega)
  | none =>
    rw [flB_n h]
    exact st_of 18 _ (by omega) (by omega) (by simp [may3, mayW])
/-- How wide a kind of bits is. -/
theorem wide (k b : Int) (h1 : b < 18446744073709551616) (hk : k = 1 ∨ 10 ≤ k ∧ k ≤ 13) (m : mayW k b = true) : ∃ n : Nat, n ≤ 64 ∧ b < ((2 ^ n : Nat) : Int) ∧ (∀ c : Int, 0 ≤ c → c < ((2 ^ n : Nat) : Int) → mayW k c = true) ∧ ∀ c : Int, mayW k c = true → c < 18446744073709551616 → c < ((2 ^ n : Nat) : Int) := by
  rcases (by omega : k = 1 ∨ k = 10 ∨ k = 11 ∨ k = 12 ∨ k = 13) with rfl | rfl | rfl | rfl | rfl
  · exact ⟨1, by omega, by simp [mayW] at m ⊢; omega, fun c c0 c1 => by simp [mayW] at *; omega, fun c h _ => by simp [mayW] at *; omega⟩
  · exact ⟨8, by omega, by simp [mayW] at m ⊢; omega, fun c c0 c1 => by simp [mayW] at *; omega, fun c h _ => by simp [mayW] at *; omega⟩
  · exact ⟨16, by omega, by simp [mayW] at m ⊢; omega, fun c c0 c1 => by simp [mayW] at *; omega, fun c h _ => by simp [mayW] at *; omega⟩
  · exact ⟨32, by omega, by simp [mayW] at m ⊢; omega, fun c c0 c1 => by simp [mayW] at *; omega, fun c h _ => by simp [mayW] at *; omega⟩
  · exact ⟨64, by omega, by simp; omega, fun c c0 c1 => by simp [mayW], fun c _ h => by simp; omega⟩
theorem mayE (k b : Int) (h : ¬ k = 19) : may3 k b E0 = mayW k b := by
  simp [may3, h]
theorem st_bit (op k b c : Int) (hk : k = 1 ∨ 10 ≤ k ∧ k ≤ 13) (h0 : 0 ≤ b) (h1 : b < 18446744073709551616) (g0 : 0 ≤ c) (g1 : c < 18446744073709551616) (m : mayW k b = true) (m' : mayW k c = true) : StOk (.tuple #[V k (bitB op b c) E0, .int .i64 0]) := by
  obtain ⟨n, n64, hb, hall, hin⟩ := wide k b h1 hk m
  have hc := hin c m' g1
  have hp : (2 : Nat) ^ n ≤ 2 ^ 64 := Nat.pow_le_pow_right (by omega) n64
  have e64 : (2 : Nat) ^ 64 = 18446744073709551616 := by decide
  have key : ∀ r : Nat, r < 2 ^ n → StOk (.tuple #[V k (r : Int) E0, .int .i64 0]) := by
    intro r hr
    refine st_of k _ (by omega) (by omega) ?_
    rw [mayE k _ (by omega)]
    exact hall _ (by omega) (by omega)
  have b1 : b.toNat < 2 ^ n := by omega
  have c1 : c.toNat < 2 ^ n := by omega
  unfold bitB
  split
  · rw [u64_and b c h0 h1 g0 g1]
    exact key _ (Nat.and_lt_two_pow _ c1)
  · split
    · rw [u64_or b c h0 h1 g0 g1]
      exact key _ (Nat.or_lt_two_pow b1 c1)
    · rw [u64_xor b c h0 h1 g0 g1]
      exact key _ (Nat.xor_lt_two_pow b1 c1)
theorem may_part {k b : Int} {s : ByteArray} (m : may3 k b s = true) (h : ¬ k = 19) : mayW k b = true := by
  simp [may3, h] at m
  exact m.2
theorem reck_ok (op k b k' c : Int) (s t : ByteArray) (h0 : 0 ≤ b) (h1 : b < 18446744073709551616) (hk : 0 ≤ k ∧ k < 256) (g0 : 0 ≤ c) (g1 : c < 18446744073709551616) : StOk (reckR op k b k' c s t) := by
  unfold reckR
  split
  · exact st_fault 8 (by omega)
  · rename_i hm
    have m1 : may3 k b s = true := by cases q : may3 k b s <;> simp_all
    have m2 : may3 k' c t = true := by cases q : may3 k' c t <;> simp_all
    split
    · cases hB op k b c s t
      · exact st_of 1 0 (by omega) (by omega) (by simp [may3, mayW])
      · exact st_of 1 1 (by omega) (by omega) (by simp [may3, mayW])
    · split
      · exact st_fl op _ _
      · split
        · rename_i q
          have hq : k = 1 ∨ 10 ≤ k ∧ k ≤ 13 := by simpa [hbK] using q.2.1
          obtain rfl := q.1
          exact st_bit op k b c hq h0 h1 g0 g1 (may_part m1 (by omega)) (may_part m2 (by omega))
        · split
          · exact st_fault 8 (by omega)
          · rename_i z
            have o := outc_ne z
            unfold nR
            split
            · exact st_fault 2 (by omega)
            · split
              · rename_i f
                exact st_fit _ _ (by omega) f
              · exact st_fault 1 (by omega)
theorem turn_ok (op k b : Int) (s : ByteArray) (h0 : 0 ≤ b) (h1 : b < 18446744073709551616) (hk : 0 ≤ k ∧ k < 256) : StOk (turnR op k b s) := by
  unfold turnR
  split
  · exact st_fault 8 (by omega)
  · rename_i hm
    have m1 : may3 k b s = true := by cases q : may3 k b s <;> simp_all
    split
    · split
      · rename_i f
        exact st_fit _ _ hk f
      · exact st_fault 1 (by omega)
    · split
      · refine st_lreal _ ?_
        unfold flipN
        have : b.toNat ^^^ 9223372036854775808 < 2 ^ 64 := Nat.xor_lt_two_pow (by omega) (by decide)
        omega
      · split
        · rename_i q
          have w := may_part m1 (by omega)
          rcases (by omega : k = 1 ∨ k = 10 ∨ k = 11 ∨ k = 12 ∨ k = 13) with rfl | rfl | rfl | rfl | rfl
          all_goals
            simp [mayW] at w
            refine st_of _ _ (by omega) (by simp [notB]; omega) ?_
            simp [may3, mayW, notB]
            try omega
        · exact st_fault 8 (by omega)
end Go.Proofs.YtfihbpglnnheiaaDoor
