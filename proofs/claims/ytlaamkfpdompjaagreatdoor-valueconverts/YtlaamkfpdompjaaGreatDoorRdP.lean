/- The number of a text, as the program and as the document read it: the same; plainly, no program; no statement of the seat is proved here. -/
import Derived.Test.YtlaamkfpdompjaaGreatDoorRdR
namespace Go.Proofs.YtlaamkfpdompjaaGreatDoor
set_option linter.unusedVariables false
/-- What is read is no less than its first digits say, and below 2^64. -/
theorem rdL_bd : ∀ (l : List UInt8) (z u : Int), 0 ≤ z → z ≤ 18446744073709551615 → rdL l z = some u → z * 10 ^ l.length ≤ u ∧ u ≤ 18446744073709551615
  | [], z, u, h0, h1, h => by
    have : z = u := Option.some.inj h
    simp
    omega
  | c :: l, z, u, h0, h1, h => by
    simp only [rdL] at h
    split at h
    · cases h
    · split at h
      · cases h
      · split at h
        · cases h
        · obtain ⟨a, b⟩ := rdL_bd l (z * 10 + ((c.toNat : Int) - 48)) u (by omega) (by omega) h
          refine ⟨?_, b⟩
          have p : (0 : Int) ≤ 10 ^ l.length := Int.le_of_lt (Int.pow_pos (by omega))
          have e : z * 10 ^ (c :: l).length = z * 10 * 10 ^ l.length := by
            rw [List.length_cons, Int.pow_succ, Int.mul_comm (10 ^ l.length), Int.mul_assoc]
          rw [e]
          have q : 0 ≤ ((c.toNat : Int) - 48) * 10 ^ l.length := Int.mul_nonneg (by omega) p
          rw [Int.add_mul] at a
          omega
/-- Without a nought ahead it is 1 or more, and of 20 digits at most. -/
theorem rdL_first (c : UInt8) (l : List UInt8) (u : Int) (hc : ¬ c = 48) (h : rdL (c :: l) 0 = some u) : 1 ≤ u ∧ u ≤ 18446744073709551615 ∧ l.length ≤ 19 := by
  simp only [rdL] at h
  split at h
  · cases h
  · split at h
    · cases h
    · split at h
      · cases h
      · have c48 : (c.toNat : Int) ≠ 48 := fun e => hc (UInt8.toNat_inj.mp (by show c.toNat = 48; omega))
        obtain ⟨a, b⟩ := rdL_bd l (0 * 10 + ((c.toNat : Int) - 48)) u (by omega) (by omega) h
        have p1 : (1 : Int) ≤ 10 ^ l.length := Int.add_one_le_of_lt (Int.pow_pos (by omega))
        have d1 : 1 ≤ (c.toNat : Int) - 48 := by omega
        have m : 1 * (10 : Int) ^ l.length ≤ (0 * 10 + ((c.toNat : Int) - 48)) * 10 ^ l.length := Int.mul_le_mul_of_nonneg_right (by omega) (by omega)
        refine ⟨by omega, b, ?_⟩
        by_cases g : l.length ≤ 19
        · exact g
        · exfalso
          have : (10 : Nat) ^ 20 ≤ 10 ^ l.length := Nat.pow_le_pow_right (by omega) (by omega)
          have e : ((10 ^ l.length : Nat) : Int) = (10 : Int) ^ l.length := by push_cast; rfl
          have : (100000000000000000000 : Int) ≤ (10 : Int) ^ l.length := by rw [← e]; exact Int.ofNat_le.mpr this
          omega
/-- A text's number, the program's way and the document's. -/
def txC (l : List UInt8) : Option Int :=
  if (if l.head? = some 45 then l.tail else l) = [] ∨ ((if l.head? = some 45 then l.tail else l).head? = some 48 ∧ ¬ l = [48]) then none
  else (rdL (if l.head? = some 45 then l.tail else l) 0).map fun u => if l.head? = some 45 then -u else u
def txR (l : List UInt8) : Option Int :=
  match dgO (if 1 < l.length ∧ l.head? = some 45 then l.tail else l) with
  | none => none
  | some u => if (1 < l.length ∧ l.head? = some 45) ∧ u = 0 then none else some (if 1 < l.length ∧ l.head? = some 45 then -u else u)
/-- Of digits without a nought ahead both read the same. -/
theorem dgO_first (c : UInt8) (l : List UInt8) (hc : ¬ c = 48) : dgO (c :: l) = rdL (c :: l) 0 := by
  unfold dgO
  by_cases g : 20 < (c :: l).length
  · rw [if_pos (Or.inr (Or.inl g))]
    cases q : rdL (c :: l) 0 with
    | none => rfl
    | some u =>
      have := (rdL_first c l u hc q).2.2
      simp at g
      omega
  · rw [if_neg]
    rintro (h | h | ⟨_, h⟩)
    · cases h
    · exact g h
    · exact hc (by simpa using h)
theorem tx_same (l : List UInt8) : txC l = txR l := by
  unfold txC txR
  cases l with
  | nil => rfl
  | cons a t =>
    by_cases m : a = 45
    · subst m
      cases t with
      | nil => rfl
      | cons c r =>
        have p : 1 < (45 :: c :: r : List UInt8).length ∧ (45 :: c :: r : List UInt8).head? = some 45 := ⟨by simp, rfl⟩
        have hh : (45 :: c :: r : List UInt8).head? = some 45 := rfl
        simp only [if_pos p, if_pos hh, List.tail_cons]
        by_cases z : c = 48
        · subst z
          rw [if_pos (Or.inr ⟨rfl, by simp⟩)]
          cases r with
          | nil => rfl
          | cons d r =>
            have : dgO (48 :: d :: r) = none := by
              unfold dgO
              rw [if_pos (Or.inr (Or.inr ⟨by simp, rfl⟩))]
            rw [this]
        · rw [if_neg (by simp [z]), dgO_first c r z]
          cases q : rdL (c :: r) 0 with
          | none => rfl
          | some u =>
            have b := (rdL_first c r u z q).1
            simp only [Option.map_some]
            rw [if_neg (by omega)]
    · have hh : ¬ (a :: t).head? = some 45 := by simpa using m
      have p : ¬ (1 < (a :: t).length ∧ (a :: t).head? = some 45) := fun h => hh h.2
      simp only [if_neg p, if_neg hh]
      by_cases z : a = 48
      · subst z
        cases t with
        | nil => rfl
        | cons d r =>
          have : dgO (48 :: d :: r) = none := by
            unfold dgO
            rw [if_pos (Or.inr (Or.inr ⟨by simp, rfl⟩))]
          rw [this, if_pos (Or.inr ⟨rfl, by simp⟩)]
      · rw [if_neg (by simp [z]), dgO_first a t z]
        cases q : rdL (a :: t) 0 with
        | none => rfl
        | some u =>
          simp only [Option.map_some]
          rw [if_neg (fun h => p h.1)]
end Go.Proofs.YtlaamkfpdompjaaGreatDoor
