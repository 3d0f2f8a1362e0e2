/- What times.Week answers; no statement of the seat is proved here. -/
import Derived.Test.YtmcmpgnkjjcocabDoorCivil
import Derived.Test.YtmcmpgnkjjcocabDoorDaysB
namespace Go.Proofs.YtmcmpgnkjjcocabDoor
set_option linter.unusedVariables false
open Go.RowKit
/-- The day of the week. -/
def wk (n : Int) : Int := (n + 4) % 7
theorem tm_neg (n : Int) (h : n < 0) : n.tmod 7 = -((-n) % 7) := by
  have e : n = -(-n) := by omega
  rw [e, Int.neg_tmod, Int.tmod_eq_emod_of_nonneg (by omega)]
  simp
theorem tm_pos (n : Int) (h : 0 ≤ n) : n.tmod 7 = n % 7 := Int.tmod_eq_emod_of_nonneg h
theorem wrap_small (n : Int) (h : -100 ≤ n ∧ n ≤ 100) : wrap64 n = n := by unfold wrap64; omega
theorem wk_a (n : Int) (h : n < 0) : (wrap64 (wrap64 (n.tmod 7 + 7) + 4)).tmod 7 = wk n := by
  rw [tm_neg n h, wrap_small (-(-n % 7) + 7) (by omega), wrap_small (-(-n % 7) + 7 + 4) (by omega), tm_pos _ (by omega)]
  unfold wk; omega
set_option maxHeartbeats 400000 in
theorem Week_of (n : Int) (w : World) (g : -9223372036854775808 ≤ n ∧ n ≤ 9223372036854775807) : Calls Tryd.prog 12 #[.int .i64 n] w fun e w' => e = .returned (.int .i64 (wk n)) ∧ w' = w := by
  by_cases c : 0 ≤ n
  · go_enter Tryd.func12, Tryd.ntmps12
    go_wp2
    go_ret
    exact ⟨ret_int (by unfold wk; omega), rfl⟩
  · go_enter Tryd.func12, Tryd.ntmps12
    go_wp2
    go_ret
    exact ⟨ret_int (wk_a n (by omega)), rfl⟩
/-- The day behind a day. -/
theorem Cal.At.next {n : Int} {k m k' m' : Nat} {d d' : Int} (h : Cal.At n k m d) (h' : Cal.At (n + 1) k' m' d') : (k' = k ∧ m' = m ∧ d' = d + 1) ∨ (d' = 0 ∧ k' = k ∧ m' = m + 1) ∨ (d' = 0 ∧ k' = k + 1 ∧ m = 11 ∧ m' = 0) := by
  have lo := h.lo
  have hi := h.hi
  have hm := h.hm
  have sm := h.sum
  by_cases c : d + 1 < Cal.dim (1970 + k) (m + 1)
  · have : Cal.At (n + 1) k m (d + 1) := ⟨hm, by omega, c, by omega⟩
    obtain ⟨a, b, e⟩ := h'.unique this
    exact .inl ⟨a, b, e⟩
  · have e : Cal.mcum (1970 + k) (m + 1) = Cal.mcum (1970 + k) m + Cal.dim (1970 + k) (m + 1) := rfl
    by_cases g : m = 11
    · subst g
      have y := Cal.mcum_year (1970 + (k : Int))
      have f : Cal.ycum (k + 1) = Cal.ycum k + Cal.yl (1970 + k) := rfl
      have b := Cal.dim_bd (1970 + ((k + 1 : Nat) : Int)) (((0 : Nat) : Int) + 1)
      have : Cal.At (n + 1) (k + 1) 0 0 := ⟨by omega, by omega, by omega, by
        show n + 1 = Cal.ycum (k + 1) + 0 + 0
        have e' : Cal.mcum (1970 + (k : Int)) 12 = Cal.mcum (1970 + k) 11 + Cal.dim (1970 + k) ((11 : Nat) + 1) := rfl
        omega⟩
      obtain ⟨a, b, e⟩ := h'.unique this
      exact .inr (.inr ⟨e, a, rfl, b⟩)
    · have b := Cal.dim_bd (1970 + (k : Int)) (((m + 1 : Nat) : Int) + 1)
      have : Cal.At (n + 1) k (m + 1) 0 := ⟨by omega, by omega, by omega, by omega⟩
      obtain ⟨a, b, e⟩ := h'.unique this
      exact .inr (.inl ⟨e, a, b⟩)
theorem at_date {n : Int} {k m : Nat} {d : Int} (h : Cal.At n k m d) (hk : k ≤ 229) : dateB (1970 + k) (1 + m) (d + 1) = true ∧ dayN (1970 + k) (1 + m) (d + 1) = n := by
  have lo := h.lo
  have hi := h.hi
  have hm := h.hm
  have sm := h.sum
  have e1 : (1970 + (k : Int) - 1970).toNat = k := by omega
  have e2 : (1 + (m : Int) - 1).toNat = m := by omega
  refine ⟨?_, ?_⟩
  · unfold dateB
    rw [Int.add_comm 1 (m : Int)]
    simp only [decide_eq_true_eq]
    omega
  · unfold dayN
    rw [e1, e2]
    omega
theorem wk_next (n : Int) : wk (n + 1) = (wk n + 1) % 7 := by unfold wk; omega
end Go.Proofs.YtmcmpgnkjjcocabDoor
