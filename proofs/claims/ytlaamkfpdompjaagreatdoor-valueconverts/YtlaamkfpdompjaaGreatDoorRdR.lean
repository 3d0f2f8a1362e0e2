/- What the document's digits answers of every text; no statement of the seat is proved here. -/
import Derived.Test.YtlaamkfpdompjaaGreatDoorRdN
namespace Go.Proofs.YtlaamkfpdompjaaGreatDoor
set_option linter.unusedVariables false
open Go.RowKit
/-- The number of a text without a sign. -/
def dgO (l : List UInt8) : Option Int := if l = [] ∨ 20 < l.length ∨ (1 < l.length ∧ l.head? = some 48) then none else rdL l 0
def dgV (o : Option Int) : Value := match o with
  | none => .tuple #[.int .u64 0, .bool false]
  | some n => .tuple #[.int .u64 n, .bool true]
set_option maxHeartbeats 2000000 in
theorem digitsR1_of (s : ByteArray) (w : World) (hs : s.size ≤ maxLen) : Calls Tryz.prog 41 #[.string s] w fun e w' => e = .returned (dgV (dgO s.data.toList)) ∧ w' = w := by
  have hm : s.size ≤ 9223372036854775807 := hs
  have SL : Hid (s.data.toList.length = s.size) := by show _ = _; simp
  generalize hR : dgO s.data.toList = R
  have HR : Hid (dgO s.data.toList = R) := hR
  clear hR
  by_cases z0 : s.size = 0
  · have E : Hid (R = none) := by
      show _ = _
      rw [← HR.out, dgO, if_pos (Or.inl (List.eq_nil_of_length_eq_zero (by rw [SL.out]; exact z0)))]
    have g : s.toList.isEmpty = true := by
      rw [ByteArray.toList_eq, List.isEmpty_iff]
      exact List.eq_nil_of_length_eq_zero (by rw [SL.out]; exact z0)
    clear HR
    go_enter Tryz.func41, Tryz.ntmps41
    go_wp2
    go_returns
    exact ⟨by rw [E.out]; rfl, rfl⟩
  have g : s.toList.isEmpty = false := by
    rw [ByteArray.toList_eq]
    cases q : s.data.toList with
    | nil => have := SL.out; rw [q] at this; simp at this; omega
    | cons a l => rfl
  by_cases l20 : 20 < s.size
  · have E : Hid (R = none) := by
      show _ = _
      rw [← HR.out, dgO, if_pos (Or.inr (Or.inl (by rw [SL.out]; exact l20)))]
    have l20' : (20 : Int) < s.size := by omega
    clear HR
    go_enter Tryz.func41, Tryz.ntmps41
    go_wp2
    go_returns
    exact ⟨by rw [E.out]; rfl, rfl⟩
  have h1 : 0 < s.size := by omega
  have hd : Hid (s.data.toList.head? = some s[0]) := by
    show _ = _
    rw [List.head?_eq_getElem?, List.getElem?_eq_getElem (by rw [SL.out]; exact h1)]
    rfl
  by_cases lead : 1 < s.size ∧ (s[0].toNat : Int) = 48
  · obtain ⟨l1, l2⟩ := lead
    have E : Hid (R = none) := by
      show _ = _
      have : s[0] = 48 := UInt8.toNat_inj.mp (by show s[0].toNat = 48; omega)
      rw [← HR.out, dgO, if_pos (Or.inr (Or.inr ⟨by rw [SL.out]; exact l1, by rw [hd.out, this]⟩))]
    have l1' : (1 : Int) < s.size := by omega
    clear HR hd
    go_enter Tryz.func41, Tryz.ntmps41
    go_wp2
    go_returns
    exact ⟨by rw [E.out]; rfl, rfl⟩
  have RD : Hid (rdL s.data.toList 0 = R) := by
    show _ = _
    rw [← HR.out, dgO, if_neg]
    rintro (q | q | ⟨q1, q2⟩)
    · rw [q] at SL
      have := SL.out
      simp at this
      omega
    · rw [SL.out] at q; omega
    · rw [SL.out] at q1
      rw [hd.out] at q2
      exact lead ⟨q1, by rw [Option.some.inj q2]; rfl⟩
  have way : ¬ (1 : Int) < s.size ∨ ((1 : Int) < s.size ∧ ¬ (s[0].toNat : Int) = 48) := by
    by_cases q : 1 < s.size
    · right; exact ⟨by omega, fun e => lead ⟨q, e⟩⟩
    · left; omega
  clear HR hd lead
  rcases way with w1 | ⟨w1, w2⟩
  all_goals
    try have w2' : ((s[0].toNat : Int) == 48) = false := by simpa using w2
    go_enter Tryz.func41, Tryz.ntmps41
    go_wp2_with fail
    go_loop [4, 5] (fun sz i => ∃ (k : Nat) (z : Int), k ≤ s.size ∧ i = .int .i64 k ∧ sz = .int .u64 z ∧ 0 ≤ z ∧ z ≤ 18446744073709551615 ∧ Hid (rdL (s.data.toList.drop k) z = R)) (fun _ i => s.size - (intOf i).toNat)
    case atStart => exact ⟨0, 0, Nat.zero_le _, rfl, rfl, by omega, by omega, by show _ = _; simpa using RD.out⟩
    case round =>
      obtain ⟨k, z, hk, rfl, rfl, z0', z1, Z⟩ := hrel
      by_cases hlt : k < s.size
      · have i1 : (k : Int) < s.size := by omega
        have ST : Hid _ := rdL_at s k z hlt
        by_cases c1 : (s[k].toNat : Int) < 48
        · have E : Hid (R = none) := by
            show _ = _
            rw [← Z.out, ST.out, if_pos c1]
          clear ST Z
          go_wp2
          go_returns
          exact ⟨by rw [E.out]; rfl, rfl⟩
        · by_cases c2 : 57 < (s[k].toNat : Int)
          · have E : Hid (R = none) := by
              show _ = _
              rw [← Z.out, ST.out, if_neg c1, if_pos c2]
            clear ST Z
            go_wp2
            go_returns
            exact ⟨by rw [E.out]; rfl, rfl⟩
          · by_cases c3 : (18446744073709551615 - ((s[k].toNat : Int) - 48)) / 10 < z
            · have E : Hid (R = none) := by
                show _ = _
                rw [← Z.out, ST.out, if_neg c1, if_neg c2, if_pos c3]
              clear ST Z
              go_wp2
              go_returns
              exact ⟨by rw [E.out]; rfl, rfl⟩
            · have NX : Hid (rdL (s.data.toList.drop (k + 1)) (z * 10 + ((s[k].toNat : Int) - 48)) = R) := by
                show _ = _
                rw [← Z.out, ST.out, if_neg c1, if_neg c2, if_neg c3]
              clear ST Z
              go_wp2
              go_round
              case rel =>
                go_light
                exact ⟨k + 1, z * 10 + ((s[k].toNat : Int) - 48), by omega, by go_num, rfl, by omega, by omega, NX⟩
              case measure => simp [intOf]; omega
      · have E : Hid (R = some z) := by
          show _ = _
          rw [← Z.out, show s.data.toList.drop k = [] from List.drop_eq_nil_of_le (by rw [SL.out]; omega)]
          rfl
        clear Z
        go_wp2
        go_returns
        exact ⟨by rw [E.out]; rfl, rfl⟩
end Go.Proofs.YtlaamkfpdompjaaGreatDoor
