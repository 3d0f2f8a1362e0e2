/- What readDate, readClock and readBoth of times answer, of any text; no statement of the seat is proved here. -/
import Derived.Test.YtademfjpeoneiaaDoorPaD
import Derived.Test.YtademfjpeoneiaaDoorIx
import Derived.Test.YtademfjpeoneiaaDoorDaysB
namespace Go.Proofs.YtademfjpeoneiaaDoor
set_option linter.unusedVariables false
open Go.RowKit
theorem tab_next {w w1 : World} (h : Tab w) (hb : Below w.heap.size w w1) : Tab w1 := fun m hm => (hb.cell (p := ⟨1, m, none⟩) (World.block_lt_of_cell? w ⟨1, 0, none⟩ (h 0 (by omega)))).trans (h m hm)
theorem DV_form (y m d : Int) : ∃ n p, DV y m d = .tuple #[.int .i64 n, .bool p] := by
  unfold DV
  exact ⟨_, _, rfl⟩
set_option maxRecDepth 100000 in
set_option maxHeartbeats 2000000 in
theorem readDate_of (s : ByteArray) (w : World) (hs : s.size ≤ maxLen) (hT : Tab w) : Calls Tryd.prog 8 #[.string s] w fun e w' => RdZ e ∧ Below w.heap.size w w' := by
  have T : Hid (Tab w) := hT
  clear hT
  go_enter Tryd.func8, Tryd.ntmps8
  go_wp2_with fail
  refine (hasForm_of s _ _ hs).mono ?_
  rintro e w1 ⟨⟨p, rfl, hp⟩, hb⟩
  have B : Hid (Below w.heap.size w w1) := hb
  have T1 : Hid (Tab w1) := tab_next T.out hb
  clear hb
  cases p
  · go_wp2
    go_returns
    exact ⟨⟨0, false, rfl, by omega, by omega⟩, B.out⟩
  · have h10 : s.size = 10 := hp rfl
    clear hp
    obtain ⟨y, hy, hY⟩ := field_ex s 0 4 hs (by omega) (by omega)
    obtain ⟨m, hm, hM⟩ := field_ex s 5 7 hs (by omega) (by omega)
    obtain ⟨d, hd, hD⟩ := field_ex s 8 10 hs (by omega) (by omega)
    have Y : Hid (∀ w, Calls Tryd.prog 21 #[.string s, .int .i64 0, .int .i64 4] w fun e w' => e = .returned (.int .i64 y) ∧ w' = w) := hY
    have M : Hid (∀ w, Calls Tryd.prog 21 #[.string s, .int .i64 5, .int .i64 7] w fun e w' => e = .returned (.int .i64 m) ∧ w' = w) := hM
    have D : Hid (∀ w, Calls Tryd.prog 21 #[.string s, .int .i64 8, .int .i64 10] w fun e w' => e = .returned (.int .i64 d) ∧ w' = w) := hD
    clear hY hM hD
    obtain ⟨n, q, e⟩ := DV_form y m d
    have DD : Hid (∀ w, Tab w → Calls Tryd.prog 12 #[.int .i64 y, .int .i64 m, .int .i64 d] w fun e w' => e = .returned (.tuple #[.int .i64 n, .bool q]) ∧ w' = w) := fun w h => by
      have := Days_of y m d w h
      rwa [e] at this
    clear e
    go_wp2_with fail
    refine (Y.out _).mono ?_
    rintro e w2 ⟨rfl, rfl⟩
    go_wp2_with fail
    refine (M.out _).mono ?_
    rintro e w3 ⟨rfl, rfl⟩
    go_wp2_with fail
    refine (D.out _).mono ?_
    rintro e w4 ⟨rfl, rfl⟩
    go_wp2_with fail
    refine (DD.out _ T1.out).mono ?_
    rintro e w5 ⟨rfl, rfl⟩
    go_wp2
    go_returns
    exact ⟨⟨_, _, rfl, (wrap64_bdT _).1, (wrap64_bdT _).2⟩, B.out⟩
theorem idx_bd (c : UInt8) (l : List UInt8) : Lib.indexByte l c = -1 ∨ (0 ≤ Lib.indexByte l c ∧ Lib.indexByte l c < l.length) := by
  induction l with
  | nil => left; rfl
  | cons b l ih =>
    simp only [Lib.indexByte, List.length_cons]
    split
    · right
      omega
    · split
      · left
        rfl
      · rename_i h
        simp at h
        right
        rcases ih with q | q <;> omega
theorem iCut_ex (s : ByteArray) (hs : s.size ≤ maxLen) : ∃ (a b : ByteArray) (p : Bool), a.size ≤ s.size ∧ b.size ≤ s.size ∧ ∀ w, Calls Tryd.prog 45 #[.string s, .string ⟨#[46]⟩] w fun e w' => e = .returned (.tuple #[.string a, .string b, .bool p]) ∧ Below w.heap.size w w' := by
  have hm : s.size ≤ 9223372036854775807 := hs
  have I : Hid _ := Tryd.stringslite_Index_one s 46
  have hi : Lib.indexByte s.data.toList 46 = -1 ∨ (0 ≤ Lib.indexByte s.data.toList 46 ∧ Lib.indexByte s.data.toList 46 < s.size) := by
    have := idx_bd 46 s.data.toList
    simpa using this
  generalize Lib.indexByte s.data.toList 46 = i at *
  rcases hi with rfl | ⟨i0, i1⟩
  · refine ⟨s, ⟨#[]⟩, false, Nat.le_refl _, Nat.zero_le _, fun w => ?_⟩
    go_enter Tryd.func45, Tryd.ntmps45
    go_wp2_with (go_at_call 59; refine (I.out _).mono ?_; rintro e w1 ⟨rfl, rfl⟩)
    go_returns
    exact ⟨rfl, Below.refl _ _⟩
  · obtain ⟨j, rfl⟩ := Int.eq_ofNat_of_zero_le i0
    refine ⟨s.extract 0 j, s.extract (j + 1) s.size, true, ext_le _ _ _, ext_le _ _ _, fun w => ?_⟩
    go_enter Tryd.func45, Tryd.ntmps45
    go_wp2_with (go_at_call 59; refine (I.out _).mono ?_; rintro e w1 ⟨rfl, rfl⟩)
    go_quiet (fail)
    go_wp2
    go_returns
    exact ⟨rfl, bdN (Below.refl _ _) _⟩
theorem cut_ex (s : ByteArray) (hs : s.size ≤ maxLen) : ∃ (a b : ByteArray) (p : Bool), a.size ≤ s.size ∧ b.size ≤ s.size ∧ ∀ w, Calls Tryd.prog 22 #[.string s, .string ⟨#[46]⟩] w fun e w' => e = .returned (.tuple #[.string a, .string b, .bool p]) ∧ Below w.heap.size w w' := by
  obtain ⟨a, b, p, ha, hb, h⟩ := iCut_ex s hs
  refine ⟨a, b, p, ha, hb, fun w => ?_⟩
  have H : Hid _ := h
  clear h
  go_enter Tryd.func22, Tryd.ntmps22
  go_wp2_with (go_at_call 45; refine (H.out _).mono ?_; rintro e w1 ⟨rfl, hb1⟩)
  go_returns
  exact ⟨rfl, hb1⟩
set_option maxRecDepth 100000 in
set_option maxHeartbeats 2000000 in
theorem readClock_of (s : ByteArray) (w : World) (hs : s.size ≤ maxLen) : Calls Tryd.prog 9 #[.string s] w fun e w' => RdZ e ∧ Below w.heap.size w w' := by
  obtain ⟨a, b, dot, ha, hb, hC⟩ := cut_ex s hs
  have C : Hid _ := hC
  clear hC
  have hsa : a.size ≤ maxLen := Nat.le_trans ha hs
  have hsb : b.size ≤ maxLen := Nat.le_trans hb hs
  have C2 : Hid _ := fun w => cut_digit b w hsb
  generalize b.extract 0 (cutN digT b) = x1 at *
  generalize b.extract (cutN digT b) b.size = x2 at *
  go_enter Tryd.func9, Tryd.ntmps9
  go_wp2_with fail
  refine (C.out _).mono ?_
  rintro e w1 ⟨rfl, hb1⟩
  have B1 : Hid (Below w.heap.size w w1) := hb1
  clear hb1
  go_wp2_with fail
  refine (C2.out _).mono ?_
  rintro e w2 ⟨rfl, hb2⟩
  have B2 : Hid (Below w.heap.size w w2) := B1.out.trans (hb2.mono B1.out.size)
  clear hb2
  go_wp2_with fail
  refine (hasForm_of a _ _ hsa).mono ?_
  rintro e w3 ⟨⟨p, rfl, hp⟩, hb3⟩
  have B3 : Hid (Below w.heap.size w w3) := B2.out.trans (hb3.mono B2.out.size)
  clear hb3
  cases p
  · go_wp2
    go_returns
    exact ⟨⟨0, false, rfl, by omega, by omega⟩, B3.out⟩
  · have h8 : a.size = 8 := hp rfl
    clear hp
    obtain ⟨h, hh, hH⟩ := field_ex a 0 2 hsa (by omega) (by omega)
    obtain ⟨m, hm, hM⟩ := field_ex a 3 5 hsa (by omega) (by omega)
    obtain ⟨c, hc, hS⟩ := field_ex a 6 8 hsa (by omega) (by omega)
    have H : Hid (∀ w, Calls Tryd.prog 21 #[.string a, .int .i64 0, .int .i64 2] w fun e w' => e = .returned (.int .i64 h) ∧ w' = w) := hH
    have M : Hid (∀ w, Calls Tryd.prog 21 #[.string a, .int .i64 3, .int .i64 5] w fun e w' => e = .returned (.int .i64 m) ∧ w' = w) := hM
    have S : Hid (∀ w, Calls Tryd.prog 21 #[.string a, .int .i64 6, .int .i64 8] w fun e w' => e = .returned (.int .i64 c) ∧ w' = w) := hS
    obtain ⟨f, q, hf, hF⟩ := readFrac_ex b 1000000000 hsb (by omega) (by omega)
    have F : Hid _ := hF
    clear hH hM hS hF
    go_wp2_with fail
    all_goals first
      | (go_returns; exact ⟨⟨0, false, rfl, by omega, by omega⟩, B3.out⟩)
      | (refine (H.out _).mono ?_
         rintro e w4 ⟨rfl, rfl⟩
         go_wp2_with fail
         refine (M.out _).mono ?_
         rintro e w5 ⟨rfl, rfl⟩
         go_wp2_with fail
         refine (S.out _).mono ?_
         rintro e w6 ⟨rfl, rfl⟩
         go_wp2_with fail
         refine (F.out _).mono ?_
         rintro e w7 ⟨rfl, rfl⟩
         go_wp2
         all_goals
           go_returns
           exact ⟨⟨_, _, rfl, (wrap64_bdT _).1, (wrap64_bdT _).2⟩, B3.out⟩)
set_option maxRecDepth 100000 in
set_option maxHeartbeats 2000000 in
theorem readBoth_of (s : ByteArray) (w : World) (hs : s.size ≤ maxLen) (hT : Tab w) : Calls Tryd.prog 10 #[.string s] w fun e w' => RdZ e ∧ Below w.heap.size w w' := by
  have hm : s.size ≤ 9223372036854775807 := hs
  have T : Hid (Tab w) := hT
  clear hT
  go_enter Tryd.func10, Tryd.ntmps10
  by_cases h10 : s.size ≤ 10
  · go_wp2
    go_returns
    exact ⟨⟨0, false, rfl, by omega, by omega⟩, Below.refl _ _⟩
  · have i1 : (10 : Int) < s.size := by omega
    by_cases h45 : (s[10].toNat : Int) = 45
    · have T1 : Hid (∀ w1, Below w.heap.size w w1 → Tab w1) := fun w1 h => tab_next T.out h
      go_wp2_with fail
      refine (readDate_of _ _ (Nat.le_trans (ext_le _ _ _) hs) T.out).mono ?_
      rintro e w1 ⟨⟨n, p, rfl, n0, n1⟩, hb1⟩
      have B1 : Hid (Below w.heap.size w w1) := hb1
      clear hb1
      go_wp2_with fail
      refine (readClock_of _ _ (Nat.le_trans (ext_le _ _ _) hs)).mono ?_
      rintro e w2 ⟨⟨c, q, rfl, c0, c1⟩, hb2⟩
      have B2 : Hid (Below w.heap.size w w2) := B1.out.trans (hb2.mono B1.out.size)
      clear hb2
      go_wp2
      all_goals
        go_returns
        exact ⟨⟨_, _, rfl, (wrap64_bdT _).1, (wrap64_bdT _).2⟩, B2.out⟩
    · have h45' : ((s[10].toNat : Int) != 45) = true := by simpa using h45
      go_wp2
      go_returns
      exact ⟨⟨0, false, rfl, by omega, by omega⟩, Below.refl _ _⟩
end Go.Proofs.YtademfjpeoneiaaDoor
