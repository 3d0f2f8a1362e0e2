/- A text as a value of an integer kind: both programs answer the same; no statement of the seat is proved here. -/
import Derived.Test.YtlaamkfpdompjaaGreatDoorRdU
namespace Go.Proofs.YtlaamkfpdompjaaGreatDoor
set_option linter.unusedVariables false
open Go.RowKit
theorem fromTextR (k : Int) (s : ByteArray) (w : World) (hk : 2 ≤ k ∧ k ≤ 9) (hs : s.size ≤ maxLen) : Calls Tryz.prog 18 #[.int .u8 k, .string s] w fun e w' => e = .returned (txV k (txC s.data.toList)) ∧ Below w.heap.size w w' := by
  rw [tx_same]
  have sl : s.data.toList.length = s.size := by simp
  have hd : ∀ h : 0 < s.size, s.data.toList.head? = some s[0] := fun h => by
    rw [List.head?_eq_getElem?, List.getElem?_eq_getElem (by omega)]
    rfl
  unfold txR
  by_cases P : 1 < s.data.toList.length ∧ s.data.toList.head? = some 45
  · have s1 : 1 < s.size := by omega
    have s2 : (s[0].toNat : Int) = 45 := by
      have := P.2
      rw [hd (by omega)] at this
      rw [Option.some.inj this]
      rfl
    have el : (s.extract 1 s.size).data.toList = s.data.toList.tail := by
      rw [ByteArray.data_extract]
      simp
      exact List.take_of_length_le (by rw [List.length_tail]; simp)
    have := fromTextR_go k s w hk true (s.extract 1 s.size) (Or.inr ⟨rfl, rfl, s1, s2⟩) (by rw [ByteArray.size_extract]; omega) hs
    rw [el] at this
    rw [if_pos P]
    cases o : dgO s.data.toList.tail with
    | none => rw [o] at this; exact this
    | some u =>
      rw [o] at this
      simp only [true_and, if_true] at this
      simp only [if_pos P]
      by_cases z : u = 0
      · rw [if_pos z] at this
        rw [if_pos ⟨P, z⟩]
        exact this
      · rw [if_neg z] at this
        rw [if_neg (fun h => z h.2)]
        exact this
  · have way : s.size ≤ 1 ∨ ∃ h : 1 < s.size, ¬ (s[0].toNat : Int) = 45 := by
      by_cases s1 : 1 < s.size
      · right
        refine ⟨s1, fun g => P ⟨by omega, ?_⟩⟩
        rw [hd (by omega)]
        congr 1
        exact UInt8.toNat_inj.mp (by show s[0].toNat = 45; omega)
      · left; omega
    have := fromTextR_go k s w hk false s (Or.inl ⟨rfl, rfl, way⟩) hs hs
    rw [if_neg P]
    cases o : dgO s.data.toList with
    | none => rw [o] at this; exact this
    | some u =>
      rw [o] at this
      simp only [Bool.false_eq_true, false_and, if_false] at this
      simp only [if_neg P]
      rw [if_neg (fun h => P h.1)]
      exact this
end Go.Proofs.YtlaamkfpdompjaaGreatDoor
