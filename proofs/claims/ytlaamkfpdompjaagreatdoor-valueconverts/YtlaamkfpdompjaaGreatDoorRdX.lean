/- What readNumber of value answers of every text; no statement of the seat is proved here. -/
import Derived.Test.YtlaamkfpdompjaaGreatDoorRdP
namespace Go.Proofs.YtlaamkfpdompjaaGreatDoor
set_option linter.unusedVariables false
open Go.RowKit
theorem min_head (s : ByteArray) : minB s = decide (s.data.toList.head? = some 45) := by
  have sl : s.data.toList.length = s.size := by simp
  unfold minB
  have e : (s.extract 0 1).toList = s.data.toList.take 1 := by
    rw [ByteArray.toList_eq, ByteArray.data_extract]
    simp
  rw [e, ← sl]
  cases s.data.toList with
  | nil => rfl
  | cons a t =>
    by_cases h : a = 45 <;> simp [h]
theorem aft_list (s : ByteArray) : (aftS s).data.toList = if s.data.toList.head? = some 45 then s.data.toList.tail else s.data.toList := by
  have m := min_head s
  unfold aftS
  by_cases h : s.data.toList.head? = some 45
  · rw [decide_eq_true h] at m
    rw [m, if_pos rfl, if_pos h, ByteArray.data_extract]
    simp
    exact List.take_of_length_le (by rw [List.length_tail]; simp)
  · rw [decide_eq_false h] at m
    rw [m, if_neg h]
    rfl
/-- The number, or none. -/
def rnX (o : Option Int) : Value := match o with
  | none => .tuple #[NB 0, .bool false]
  | some n => .tuple #[NB n, .bool true]
theorem readNumber_exact (s : ByteArray) (w : World) (hs : s.size ≤ maxLen) : Calls Tryz.prog 29 #[.string s] w fun e w' => e = .returned (rnX (txC s.data.toList)) ∧ Below w.heap.size w w' := by
  have C : Hid (∀ w, Calls Tryz.prog 53 #[.string s, .string sMinus] w fun e w' => e = .returned (.tuple #[.string (aftS s), .bool (minB s)]) ∧ w' = w) := fun w => CutPrefix_of s w hs
  have al := aft_list s
  have mh := min_head s
  have dl : (aftS s).data.toList.length = (aftS s).size := by simp
  have sl : s.data.toList.length = s.size := by simp
  have dz : (aftS s).size ≤ maxLen := by
    rw [← dl, al]
    split
    · rw [List.length_tail, sl]; omega
    · rw [sl]; exact hs
  unfold txC
  rw [← al]
  generalize aftS s = d at *
  by_cases z : d.size = 0
  · rw [if_pos (Or.inl (List.eq_nil_of_length_eq_zero (by omega)))]
    exact readNumber_empty s d _ w C z
  · have h0 : 0 < d.size := by omega
    have hd : d.data.toList.head? = some d[0] := by
      rw [List.head?_eq_getElem?, List.getElem?_eq_getElem (by omega)]
      rfl
    have ne : ¬ d.data.toList = [] := fun e => by rw [e] at dl; simp at dl; omega
    have s48 : (s.toList == [48]) = decide (s.data.toList = [48]) := by
      rw [ByteArray.toList_eq]
      by_cases g : s.data.toList = [48]
      · rw [g]; rfl
      · rw [decide_eq_false g]; exact beq_eq_false_iff_ne.mpr g
    by_cases q : (d[0].toNat : Int) = 48
    · have q' : d[0] = 48 := UInt8.toNat_inj.mp (by show d[0].toNat = 48; omega)
      by_cases g : s.data.toList = [48]
      · rw [if_neg (fun h => h.elim ne (fun h => h.2 g))]
        have nm : ¬ s.data.toList.head? = some 45 := by rw [g]; simp
        rw [if_neg nm, g] at al
        have r : rdL d.data.toList 0 = some 0 := by rw [al]; rfl
        rw [r]
        have m : minB s = false := by rw [mh, decide_eq_false nm]
        rw [m] at C
        have := readNumber_rd s d false 0 w C dz h0 (Or.inr (by rw [s48, decide_eq_true g])) r (fun h => by cases h)
        simp only [Option.map_some, if_neg nm]
        simpa [sgn, rnX] using this
      · rw [if_pos (Or.inr ⟨by rw [hd, q'], g⟩)]
        exact readNumber_nought s d _ w C dz h0 q (by rw [s48, decide_eq_false g])
    · have q' : ¬ d[0] = 48 := fun e => q (by rw [e]; rfl)
      rw [if_neg (fun h => h.elim ne (fun h => q' (Option.some.inj (hd.symm.trans h.1))))]
      cases r : rdL d.data.toList 0 with
      | none => exact readNumber_none s d _ w C dz h0 q r
      | some u =>
        have u1 : 1 ≤ u := by
          obtain ⟨a, t, e⟩ : ∃ a t, d.data.toList = a :: t := by
            cases x : d.data.toList with
            | nil => exact absurd x ne
            | cons a t => exact ⟨a, t, rfl⟩
          rw [e] at r hd
          have : a = d[0] := by simpa using hd
          exact (rdL_first a t u (by rw [this]; exact q') r).1
        have := readNumber_rd s d _ u w C dz h0 (Or.inl q) r (fun _ => u1)
        rw [mh] at this
        by_cases g : s.data.toList.head? = some 45
        · rw [decide_eq_true g] at this
          simp only [Option.map_some, if_pos g]
          simpa [sgn, rnX] using this
        · rw [decide_eq_false g] at this
          simp only [Option.map_some, if_neg g]
          simpa [sgn, rnX] using this
end Go.Proofs.YtlaamkfpdompjaaGreatDoor
