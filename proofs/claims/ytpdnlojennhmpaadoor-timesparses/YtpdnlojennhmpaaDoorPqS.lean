/- Noughts at the end of digits, and what digits are read as: plainly; no statement of the seat is proved here. -/
import Derived.Test.YtpdnlojennhmpaaDoorPqR
import Derived.WalkKit
import Derived.WalkSpells
import Derived.WalkLawsBesides
import Derived.Handy
import Derived.Deep.Light
import Derived.Laws.IdiomStrings
namespace Go.Proofs.YtpdnlojennhmpaaDoor
set_option linter.unusedVariables false
open Go.RowKit
/-- How many there are ahead of the noughts at a list's end. -/
def endN : List UInt8 → Nat → Nat
  | l, 0 => 0
  | l, k + 1 => if l[k]? = some 48 then endN l k else k + 1
theorem endN_le (l : List UInt8) : ∀ k, endN l k ≤ k
  | 0 => Nat.le_refl _
  | k + 1 => by simp only [endN]; split <;> (try have := endN_le l k) <;> omega
theorem endN_split (l : List UInt8) : ∀ k, k ≤ l.length → l.take k = l.take (endN l k) ++ List.replicate (k - endN l k) 48
  | 0, _ => by simp [endN]
  | k + 1, h => by
    simp only [endN]
    split
    · next q =>
      have ih := endN_split l k (by omega)
      have le := endN_le l k
      have e : l.take (k + 1) = l.take k ++ [48] := by
        rw [List.take_add_one, q]; rfl
      rw [e, ih, List.append_assoc, show k + 1 - endN l k = (k - endN l k) + 1 by omega, List.replicate_succ']
    · simp
theorem endN_last (l : List UInt8) : ∀ k, k ≤ l.length → 1 ≤ endN l k → ∃ (t : List UInt8) (c : UInt8), l.take (endN l k) = t ++ [c] ∧ ¬ c = 48 ∧ t.length + 1 = endN l k ∧ c ∈ l
  | 0, _, h => by simp [endN] at h
  | k + 1, h, h1 => by
    simp only [endN] at h1 ⊢
    split
    · next q => rw [if_pos q] at h1; exact endN_last l k (by omega) h1
    · next q =>
      have hk : k < l.length := by omega
      refine ⟨l.take k, l[k], ?_, ?_, by simp; omega, List.getElem_mem hk⟩
      · rw [List.take_add_one, List.getElem?_eq_getElem hk]; rfl
      · intro e; apply q; rw [List.getElem?_eq_getElem hk, e]
theorem AllD_take (l : List UInt8) (k : Nat) (h : AllD l) : AllD (l.take k) := fun c hc => h c (List.mem_of_mem_take hc)
/-- What is read of digits is their number. -/
theorem rn_val : ∀ (l : List UInt8) (z : Nat), AllD l → z * 10 ^ l.length + valR l.reverse ≤ 9223372036854775807 → rnF l (z : Int) = some ((z * 10 ^ l.length + valR l.reverse : Nat) : Int)
  | [], z, _, _ => by simp [rnF, valR]
  | c :: l, z, h, hb => by
    have hc := h c List.mem_cons_self
    have hr : AllD l := fun x hx => h x (List.mem_cons_of_mem _ hx)
    have e : valR (c :: l).reverse = valR l.reverse + 10 ^ l.length * (c.toNat - 48) := by
      rw [List.reverse_cons, valR_app, List.length_reverse]; simp [valR]
    obtain ⟨d, hd⟩ : ∃ d, c.toNat - 48 = d := ⟨_, rfl⟩
    rw [hd] at e
    have p : 0 < 10 ^ l.length := Nat.pow_pos (by omega)
    have e2 : (z * 10 + d) * 10 ^ l.length + valR l.reverse = z * 10 ^ (c :: l).length + valR (c :: l).reverse := by
      rw [e, List.length_cons, Nat.pow_succ, Nat.add_mul, Nat.mul_assoc, Nat.mul_comm 10, Nat.mul_comm d]
      omega
    have le : z * 10 + d ≤ (z * 10 + d) * 10 ^ l.length := Nat.le_mul_of_pos_right _ p
    rw [← e2] at hb ⊢
    simp only [rnF]
    have c1 : ((c.toNat : Int) - 48) % 256 = d := by omega
    rw [c1, if_neg (by omega), show (z : Int) * 10 + d = ((z * 10 + d : Nat) : Int) by push_cast; rfl]
    exact rn_val l (z * 10 + d) hr hb
/-- The document's fraction. -/
def fcV (u : Nat) (l : List UInt8) : Value := match frO u l with
  | none => .tuple #[.int .i64 0, .bool false]
  | some n => .tuple #[.int .i64 (n : Int), .bool (decide (0 < l.length))]
theorem ten_le (e : Nat) (h : e ≤ 16) : 10 ^ e ≤ 10000000000000000 := Nat.pow_le_pow_right (n := 10) (by omega) h
end Go.Proofs.YtpdnlojennhmpaaDoor
