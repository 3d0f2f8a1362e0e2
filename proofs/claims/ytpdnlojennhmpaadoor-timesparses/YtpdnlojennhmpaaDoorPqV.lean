/- What a part of a span is, place by place: plainly; no statement of the seat is proved here. -/
import Derived.Test.YtpdnlojennhmpaaDoorPqU
namespace Go.Proofs.YtpdnlojennhmpaaDoor
set_option linter.unusedVariables false
open Go.RowKit
theorem qN_inj (i j : Nat) (hi : i < 7) (hj : j < 7) (h : qN i = qN j) : i = j := by
  rcases (by omega : i = 0 ∨ i = 1 ∨ i = 2 ∨ i = 3 ∨ i = 4 ∨ i = 5 ∨ i = 6) with rfl | rfl | rfl | rfl | rfl | rfl | rfl <;>
  rcases (by omega : j = 0 ∨ j = 1 ∨ j = 2 ∨ j = 3 ∨ j = 4 ∨ j = 5 ∨ j = 6) with rfl | rfl | rfl | rfl | rfl | rfl | rfl <;> first | rfl | (exfalso; revert h; decide)
theorem fuF_name (w : List UInt8) : ∀ (f k i : Nat), fuF w f k = some i → qN i = w
  | 0, k, i, h => by cases h
  | f + 1, k, i, h => by
    simp only [fuF] at h
    split at h
    · next q => obtain rfl := Option.some.inj h; exact q
    · exact fuF_name w f (k + 1) i h
theorem fuF_none (w : List UInt8) : ∀ (f k : Nat), fuF w f k = none → ∀ j, k ≤ j → j < k + f → ¬ qN j = w
  | 0, k, h, j, h1, h2 => by omega
  | f + 1, k, h, j, h1, h2 => by
    simp only [fuF] at h
    split at h
    · cases h
    · next q =>
      by_cases e : j = k
      · rw [e]; exact q
      · exact fuF_none w f (k + 1) h j (by omega) (by omega)
theorem fuO_name (w : List UInt8) (k i : Nat) (h : fuO w k = some i) : qN i = w := fuF_name w _ k i h
/-- From the kth on it is the same one, if that is not ahead. -/
theorem fuO_from (w : List UInt8) (k : Nat) (hk : k ≤ 7) : fuO w k = match fuO w 0 with
    | none => none
    | some i => if k ≤ i then some i else none := by
  cases h0 : fuO w 0 with
  | none =>
    simp only
    cases hk' : fuO w k with
    | none => rfl
    | some j =>
      have b := fuO_bd w k j hk'
      exact absurd (fuO_name w k j hk') (fuF_none w 7 0 h0 j (by omega) (by omega))
  | some i =>
    simp only
    have b0 := fuO_bd w 0 i h0
    have n0 := fuO_name w 0 i h0
    cases hk' : fuO w k with
    | none =>
      by_cases g : k ≤ i
      · exact absurd n0 (fuF_none w (7 - k) k hk' i g (by omega))
      · rw [if_neg g]
    | some j =>
      have b := fuO_bd w k j hk'
      have e : j = i := qN_inj j i (by omega) (by omega) ((fuO_name w k j hk').trans n0.symm)
      subst e
      rw [if_pos b.1]
theorem ptO_nonum (l : List UInt8) (k : Nat) (h : rnP (cpW l) = false) : ptO l k = none := by
  unfold ptO
  split
  · rfl
  · next w0 =>
    have : rnF (cpW l) 0 = none := by
      unfold rnP at h
      cases q : rnF (cpW l) 0 with
      | none => rfl
      | some n =>
        rw [q] at h
        cases r : cpW l with
        | nil => exact absurd r w0
        | cons a t => rw [r] at h; simp at h
    rw [this]
theorem ptO_bad (l : List UInt8) (k : Nat) (h : cpD l = true ∧ (cpB l = [] ∨ cpR l ≠ [])) : ptO l k = none := by
  unfold ptO
  split
  · rfl
  · split
    · rfl
    · split
      · rfl
      · first | rfl | rw [if_pos h]
theorem ptO_yes (l : List UInt8) (k i : Nat) (hn : rnP (cpW l) = true) (hi : fuO (Lib.toUpperA (cpU l)) k = some i) (hb : ¬ (cpD l = true ∧ (cpB l = [] ∨ cpR l ≠ []))) :
    ptO l k = if ¬ k = 0 ∧ pM i ≤ (rnN (cpW l)).toNat then none else match frO (qL i) (cpB l) with
      | none => none
      | some f => some ((rnN (cpW l)).toNat * qL i + f, i, cpR l) := by
  unfold rnP at hn
  have w0 : ¬ cpW l = [] := by intro e; rw [e] at hn; simp at hn
  unfold ptO rnN
  rw [if_neg w0]
  cases q : rnF (cpW l) 0 with
  | none => rw [q] at hn; simp at hn
  | some n =>
    simp only [hi, Option.getD_some]
    rw [if_neg hb]
    first | rfl | (cases frO (qL i) (cpB l) <;> rfl)
/-- Where the parts of a text stand that begins at a place. -/
theorem drop_cp1 (L : List UInt8) (p : Nat) : cp1 (L.drop p) = L.drop (p + runT digT (L.drop p)) := by
  unfold cp1; rw [List.drop_drop]
theorem cpD_at (s : ByteArray) (p : Nat) : cpD (s.data.toList.drop p) = if h : p + runT digT (s.data.toList.drop p) < s.size then decide ((s[p + runT digT (s.data.toList.drop p)].toNat : Int) = 46) else false := by
  unfold cpD
  rw [drop_cp1]
  generalize p + runT digT (s.data.toList.drop p) = q
  split
  · next h =>
    have : s.data.toList.drop q = s[q] :: s.data.toList.drop (q + 1) := by
      rw [List.drop_eq_getElem_cons (by simpa using h)]; rfl
    rw [this, List.head?_cons]
    by_cases e : s[q] = 46
    · rw [e]; rfl
    · have e' : ¬ (s[q].toNat : Int) = 46 := fun g => e (UInt8.toNat_inj.mp (by show s[q].toNat = 46; omega))
      rw [decide_eq_false e']
      simpa using e
  · next h =>
    rw [List.drop_eq_nil_of_le (by simp; omega)]
    rfl
theorem cpD_lt (s : ByteArray) (p : Nat) (h : cpD (s.data.toList.drop p) = true) : p + runT digT (s.data.toList.drop p) < s.size := by
  rw [cpD_at] at h
  split at h
  · assumption
  · cases h
theorem cp2_dot (L : List UInt8) (p : Nat) (h : cpD (L.drop p) = true) : cp2 (L.drop p) = L.drop (p + runT digT (L.drop p) + 1) := by
  unfold cp2; rw [h, if_pos rfl, drop_cp1, List.tail_drop]
theorem cp3_dot (L : List UInt8) (p : Nat) (h : cpD (L.drop p) = true) : cp3 (L.drop p) = L.drop (p + runT digT (L.drop p) + 1 + runT digT (L.drop (p + runT digT (L.drop p) + 1))) := by
  unfold cp3; rw [h, if_pos rfl, cp2_dot L p h, List.drop_drop]
theorem cpB_dot (s : ByteArray) (p : Nat) (h : cpD (s.data.toList.drop p) = true) : s.extract (p + runT digT (s.data.toList.drop p) + 1) (p + runT digT (s.data.toList.drop p) + 1 + runT digT (s.data.toList.drop (p + runT digT (s.data.toList.drop p) + 1))) = bl (cpB (s.data.toList.drop p)) := by
  refine q_eq _ _ ?_
  rw [q_ext]
  unfold cpB
  rw [h, if_pos rfl, cp2_dot _ p h]
  generalize p + runT digT (s.data.toList.drop p) + 1 = a
  rw [List.drop_take, Nat.add_sub_cancel_left]
theorem cp3_no (L : List UInt8) (p : Nat) (h : cpD (L.drop p) = false) : cp3 (L.drop p) = L.drop (p + runT digT (L.drop p)) := by
  unfold cp3 cp2; rw [h]; simp only [Bool.false_eq_true, if_false]; exact drop_cp1 L p
theorem cpB_no (l : List UInt8) (h : cpD l = false) : cpB l = [] := by unfold cpB; rw [h]; rfl
theorem cpW_at (s : ByteArray) (p : Nat) : s.extract p (p + runT digT (s.data.toList.drop p)) = bl (cpW (s.data.toList.drop p)) := by
  refine q_eq _ _ ?_
  rw [q_ext, List.drop_take, Nat.add_sub_cancel_left]
  rfl
theorem cpU_at (L : List UInt8) (p q : Nat) (h : cp3 (L.drop p) = L.drop q) : (L.drop q).take (runT letT (L.drop q)) = cpU (L.drop p) := by unfold cpU; rw [h]
theorem cpR_at (L : List UInt8) (p q : Nat) (h : cp3 (L.drop p) = L.drop q) : cpR (L.drop p) = L.drop (q + runT letT (L.drop q)) := by unfold cpR; rw [h, List.drop_drop]
end Go.Proofs.YtpdnlojennhmpaaDoor
