/- What the statement's function of TimesBack answers; no statement of the seat is proved here. -/
import Derived.Test.YtpdnlojennhmpaaGreatDoorBsF
import Derived.Test.YtpdnlojennhmpaaGreatDoorLaidV
namespace Go.Proofs.YtpdnlojennhmpaaGreatDoor
set_option linter.unusedVariables false
open Go.RowKit
theorem UT7.pu {w : World} (u : UT7 w) : PU w := fun i hi => ⟨(u i hi).1, by rw [(u i hi).2.1, uL_p i hi]⟩
theorem tpS_none (k b : Int) (s : ByteArray) (h : may3 k b s = false ∨ ¬ (14 ≤ k ∧ k ≤ 17)) : tpS k b s = ⟨#[]⟩ := by
  unfold tpS
  by_cases m : may3 k b s = false
  · rw [if_pos m]
  · have g : ¬ (14 ≤ k ∧ k ≤ 17) := h.resolve_left m
    rw [if_neg m, if_neg (by omega), if_neg (by omega), if_neg (by omega), if_neg (by omega)]
theorem tpS_size (k b : Int) (hk : 14 ≤ k ∧ k ≤ 17) (hm : may3 k b E0 = true) (h0 : 0 ≤ b) (h1 : b < 18446744073709551616) : (tpS k b E0).size ≤ 200 := by
  unfold tpS
  rw [if_neg (by rw [hm]; simp)]
  rcases (by omega : k = 14 ∨ k = 15 ∨ k = 16 ∨ k = 17) with rfl | rfl | rfl | rfl
  · rw [if_pos rfl]
    have wb : -9223372036854775808 ≤ wrap64 b ∧ wrap64 b < 9223372036854775808 := by unfold wrap64; omega
    have := tmS_size (wrap64 b) wb.1 wb.2
    rw [ByteArray.size_append]
    show 2 + _ ≤ _
    omega
  · rw [if_neg (by omega), if_pos rfl]
    have bb : b < 7258118400000000000 := by simp [may3, mayW] at hm; omega
    have := dateS_size (b / 86400000000000) (by omega)
    rw [ByteArray.size_append]
    show 2 + _ ≤ _
    omega
  · rw [if_neg (by omega), if_neg (by omega), if_pos rfl]
    have bb : b < 86400000000000 := by simp [may3, mayW] at hm; omega
    have := clS_size b.toNat (by omega)
    rw [ByteArray.size_append]
    show 4 + _ ≤ _
    omega
  · rw [if_neg (by omega), if_neg (by omega), if_neg (by omega), if_pos rfl]
    have bb : b < 7258118400000000000 := by simp [may3, mayW] at hm; omega
    have := dateS_size (b / 86400000000000) (by omega)
    have := clS_size (b % 86400000000000).toNat (by omega)
    rw [ByteArray.size_append, ByteArray.size_append, ByteArray.size_append]
    have o : (⟨#[68, 84, 35]⟩ : ByteArray).size = 3 := rfl
    have o2 : (⟨#[45]⟩ : ByteArray).size = 1 := rfl
    omega
section
variable (k b : Int) (s : ByteArray) (w : World)
set_option maxRecDepth 100000 in
set_option maxHeartbeats 4000000 in
theorem tback_no (h0 : 0 ≤ b) (h1 : b < 18446744073709551616) (hk : 0 ≤ k ∧ k < 256) (hs : s.size ≤ maxLen) (hP : Pow w) (hT : Tab w) (u : UT7 w) (hn : may3 k b s = false ∨ ¬ (14 ≤ k ∧ k ≤ 17)) :
    Calls Tryz.prog 3 #[V k b s] w fun e w' => e = .returned (.bool true) ∧ Below w.heap.size w w' := by
  have HT : Hid (∀ w', Below w.heap.size w w' → Pow w' ∧ UT7 w' ∧ Tab w') := fun w' hb => ⟨pow_below hP hb, u.next hb, tabB hT hb⟩
  have P1 : Hid (∀ w', Below w.heap.size w w' → Calls Tryz.prog 4 #[V k b s] w' fun e w'' => e = .returned (.string ⟨#[]⟩) ∧ Below w'.heap.size w' w'') := fun w' hb => by
    have := TPrint_of k b s w' (HT.out _ hb).1 (HT.out _ hb).2.1.pu (HT.out _ hb).2.2 h0 h1 hk hs
    rwa [tpS_none k b s hn] at this
  have MR : Hid (∀ w, Calls Tryz.prog 5 #[V k b s] w fun e w' => e = .returned (.bool (may3 k b s)) ∧ Below w.heap.size w w') := fun w => MayR_of k b s w h0 h1 hk hs
  have AW : Hid (∀ w', Below w.heap.size w w' → Calls Tryz.prog 6 #[] w' fun e w'' => e = .returned (.bool true) ∧ Below w'.heap.size w' w'') := fun w' hb => awake_of w' (HT.out _ hb).2.1.ut (HT.out _ hb).2.2
  clear hP hT u HT
  have kk : k < 14 ∨ 17 < k ∨ 14 ≤ k ∧ k ≤ 17 := by omega
  rcases kk with kk | kk | kk
  all_goals
    cases m : may3 k b s
  all_goals first
    | (exfalso
       rcases hn with q | q
       · rw [m] at q; cases q
       · omega)
    | (rw [m] at MR
       clear hn m
       go_enter Tryz.func3, Tryz.ntmps3
       go_wp2_with fail
       refine (P1.out _ ((Below.refl _ _).alloc (Nat.le_refl _) _)).mono ?_
       rintro e w1 ⟨rfl, hb⟩
       have B : Hid (Below w.heap.size w w1) := ((Below.refl _ _).alloc (Nat.le_refl _) _).trans (hb.mono (by simp))
       have A0 : Hid (Lies w1 w.heap.size k b s) := (Lies.new w k b s _).next hb
       clear hb
       obtain ⟨l0, c00, c01, c02⟩ := A0.out
       go_wp2_with fail
       refine (MR.out _).mono ?_
       rintro e w2 ⟨rfl, hb⟩
       have B2 : Hid (Below w.heap.size w w2) := B.out.trans (hb.mono B.out.size)
       have A2 : Hid (Lies w2 w.heap.size k b s) := A0.out.next hb
       clear hb B A0 l0 c00 c01 c02
       obtain ⟨l0, c00, c01, c02⟩ := A2.out
       go_wp2_with (go_at_call 6; refine (AW.out _ B2.out).mono ?_; rintro e w4 ⟨rfl, hb4⟩)
       go_ret
       exact ⟨rfl, B2.out.trans (hb4.mono B2.out.size)⟩)
set_option maxRecDepth 100000 in
set_option maxHeartbeats 4000000 in
theorem tback_yes (h0 : 0 ≤ b) (h1 : b < 18446744073709551616) (hk : 14 ≤ k ∧ k ≤ 17) (m : may3 k b E0 = true) (hP : Pow w) (hT : Tab w) (u : UT7 w) :
    Calls Tryz.prog 3 #[V k b E0] w fun e w' => e = .returned (.bool true) ∧ Below w.heap.size w w' := by
  have HT : Hid (∀ w', Below w.heap.size w w' → Pow w' ∧ UT7 w' ∧ Tab w') := fun w' hb => ⟨pow_below hP hb, u.next hb, tabB hT hb⟩
  have P1 : Hid (∀ w', Below w.heap.size w w' → Calls Tryz.prog 4 #[V k b E0] w' fun e w'' => e = .returned (.string (tpS k b E0)) ∧ Below w'.heap.size w' w'') := fun w' hb => TPrint_of k b E0 w' (HT.out _ hb).1 (HT.out _ hb).2.1.pu (HT.out _ hb).2.2 h0 h1 (by omega) (Nat.zero_le _)
  have MR : Hid (∀ w, Calls Tryz.prog 5 #[V k b E0] w fun e w' => e = .returned (.bool true) ∧ Below w.heap.size w w') := fun w => by
    have := MayR_of k b E0 w h0 h1 (by omega) (Nat.zero_le _)
    rwa [m] at this
  have sz := tpS_size k b hk m h0 h1
  obtain ⟨a, hC⟩ := Cut_back k b hk m (by unfold maxLen; omega)
  have C : Hid _ := hC
  have PB : Hid (∀ w', Below w.heap.size w w' → Calls Tryz.prog 8 #[.int .u8 k, .string (bkS k b)] w' fun e w'' => e = .returned (if k = 14 ∧ b = 9223372036854775808 then .tuple #[V 0 0 E0, .bool false] else .tuple #[V k b E0, .bool true]) ∧ Below w'.heap.size w' w'') := fun w' hb => Parse_back k b hk h0 h1 m w' (HT.out _ hb).2.1 (HT.out _ hb).2.2
  clear hC hP hT u HT m sz
  generalize tpS k b E0 = t at *
  generalize bkS k b = r at *
  have E1 : ((⟨#[]⟩ : ByteArray).toList == (⟨#[]⟩ : ByteArray).toList) = true := by simp
  by_cases c : k = 14 ∧ b = 9223372036854775808
  · rw [if_pos c] at PB
    obtain ⟨rfl, rfl⟩ := c
    go_enter Tryz.func3, Tryz.ntmps3
    go_wp2_with fail
    refine (P1.out _ ((Below.refl _ _).alloc (Nat.le_refl _) _)).mono ?_
    rintro e w1 ⟨rfl, hb⟩
    have B : Hid (Below w.heap.size w w1) := ((Below.refl _ _).alloc (Nat.le_refl _) _).trans (hb.mono (by simp))
    have A0 : Hid (Lies w1 w.heap.size 14 9223372036854775808 E0) := (Lies.new w 14 9223372036854775808 E0 _).next hb
    clear hb
    obtain ⟨l0, c00, c01, c02⟩ := A0.out
    go_wp2_with fail
    refine (MR.out _).mono ?_
    rintro e w2 ⟨rfl, hb⟩
    have B2 : Hid (Below w.heap.size w w2) := B.out.trans (hb.mono B.out.size)
    have A2 : Hid (Lies w2 w.heap.size 14 9223372036854775808 E0) := A0.out.next hb
    clear hb B A0 l0 c00 c01 c02
    obtain ⟨l0, c00, c01, c02⟩ := A2.out
    go_wp2_with fail
    refine (C.out _).mono ?_
    rintro e w3 ⟨rfl, hb⟩
    have B3 : Hid (Below w.heap.size w w3) := B2.out.trans (hb.mono B2.out.size)
    have A3 : Hid (Lies w3 w.heap.size 14 9223372036854775808 E0) := A2.out.next hb
    clear hb B2 A2 l0 c00 c01 c02
    obtain ⟨l0, c00, c01, c02⟩ := A3.out
    go_wp2_with fail
    refine (PB.out _ B3.out).mono ?_
    rintro e w4 ⟨rfl, hb⟩
    have B4 : Hid (Below w.heap.size w w4) := B3.out.trans (hb.mono B3.out.size)
    have A4 : Hid (Lies w4 w.heap.size 14 9223372036854775808 E0) := A3.out.next hb
    clear hb B3 A3 l0 c00 c01 c02
    obtain ⟨l0, c00, c01, c02⟩ := A4.out
    have z4 : w.heap.size ≤ w4.heap.size := B4.out.size
    go_wp2
    go_ret
    exact ⟨rfl, by first | exact B4.out | exact B4.out.alloc z4 _⟩
  · rw [if_neg c] at PB
    have cc : ¬ k = 14 ∨ k = 14 ∧ ¬ b = 9223372036854775808 := by omega
    have E2 : ((k : Int) == k) = true := by simp
    have E3 : ((b : Int) == b) = true := by simp
    rcases cc with c1 | ⟨rfl, c2⟩
    · have c1' : (k == 14) = false := by simpa using c1
      go_enter Tryz.func3, Tryz.ntmps3
      go_wp2_with fail
      refine (P1.out _ ((Below.refl _ _).alloc (Nat.le_refl _) _)).mono ?_
      rintro e w1 ⟨rfl, hb⟩
      have B : Hid (Below w.heap.size w w1) := ((Below.refl _ _).alloc (Nat.le_refl _) _).trans (hb.mono (by simp))
      have A0 : Hid (Lies w1 w.heap.size k b E0) := (Lies.new w k b E0 _).next hb
      clear hb
      obtain ⟨l0, c00, c01, c02⟩ := A0.out
      go_wp2_with fail
      refine (MR.out _).mono ?_
      rintro e w2 ⟨rfl, hb⟩
      have B2 : Hid (Below w.heap.size w w2) := B.out.trans (hb.mono B.out.size)
      have A2 : Hid (Lies w2 w.heap.size k b E0) := A0.out.next hb
      clear hb B A0 l0 c00 c01 c02
      obtain ⟨l0, c00, c01, c02⟩ := A2.out
      go_wp2_with fail
      refine (C.out _).mono ?_
      rintro e w3 ⟨rfl, hb⟩
      have B3 : Hid (Below w.heap.size w w3) := B2.out.trans (hb.mono B2.out.size)
      have A3 : Hid (Lies w3 w.heap.size k b E0) := A2.out.next hb
      clear hb B2 A2 l0 c00 c01 c02
      obtain ⟨l0, c00, c01, c02⟩ := A3.out
      go_wp2_with fail
      refine (PB.out _ B3.out).mono ?_
      rintro e w4 ⟨rfl, hb⟩
      have B4 : Hid (Below w.heap.size w w4) := B3.out.trans (hb.mono B3.out.size)
      have A4 : Hid (Lies w4 w.heap.size k b E0) := A3.out.next hb
      clear hb B3 A3 l0 c00 c01 c02
      obtain ⟨l0, c00, c01, c02⟩ := A4.out
      have z4 : w.heap.size ≤ w4.heap.size := B4.out.size
      go_wp2
      go_ret
      exact ⟨rfl, by first | exact B4.out | exact B4.out.alloc z4 _⟩
    · have c2' : (b == 9223372036854775808) = false := by simpa using c2
      go_enter Tryz.func3, Tryz.ntmps3
      go_wp2_with fail
      refine (P1.out _ ((Below.refl _ _).alloc (Nat.le_refl _) _)).mono ?_
      rintro e w1 ⟨rfl, hb⟩
      have B : Hid (Below w.heap.size w w1) := ((Below.refl _ _).alloc (Nat.le_refl _) _).trans (hb.mono (by simp))
      have A0 : Hid (Lies w1 w.heap.size 14 b E0) := (Lies.new w 14 b E0 _).next hb
      clear hb
      obtain ⟨l0, c00, c01, c02⟩ := A0.out
      go_wp2_with fail
      refine (MR.out _).mono ?_
      rintro e w2 ⟨rfl, hb⟩
      have B2 : Hid (Below w.heap.size w w2) := B.out.trans (hb.mono B.out.size)
      have A2 : Hid (Lies w2 w.heap.size 14 b E0) := A0.out.next hb
      clear hb B A0 l0 c00 c01 c02
      obtain ⟨l0, c00, c01, c02⟩ := A2.out
      go_wp2_with fail
      refine (C.out _).mono ?_
      rintro e w3 ⟨rfl, hb⟩
      have B3 : Hid (Below w.heap.size w w3) := B2.out.trans (hb.mono B2.out.size)
      have A3 : Hid (Lies w3 w.heap.size 14 b E0) := A2.out.next hb
      clear hb B2 A2 l0 c00 c01 c02
      obtain ⟨l0, c00, c01, c02⟩ := A3.out
      go_wp2_with fail
      refine (PB.out _ B3.out).mono ?_
      rintro e w4 ⟨rfl, hb⟩
      have B4 : Hid (Below w.heap.size w w4) := B3.out.trans (hb.mono B3.out.size)
      have A4 : Hid (Lies w4 w.heap.size 14 b E0) := A3.out.next hb
      clear hb B3 A3 l0 c00 c01 c02
      obtain ⟨l0, c00, c01, c02⟩ := A4.out
      have z4 : w.heap.size ≤ w4.heap.size := B4.out.size
      go_wp2
      go_ret
      exact ⟨rfl, by first | exact B4.out | exact B4.out.alloc z4 _⟩
theorem tback_law (h0 : 0 ≤ b) (h1 : b < 18446744073709551616) (hk : 0 ≤ k ∧ k < 256) (hs : s.size ≤ maxLen) (hP : Pow w) (hT : Tab w) (u : UT7 w) :
    Calls Tryz.prog 3 #[V k b s] w fun e w' => e = .returned (.bool true) ∧ Below w.heap.size w w' := by
  by_cases g : 14 ≤ k ∧ k ≤ 17
  · cases m : may3 k b s
    · exact tback_no k b s w h0 h1 hk hs hP hT u (Or.inl m)
    · have q : s.toList = [] := by
        rcases (by omega : k = 14 ∨ k = 15 ∨ k = 16 ∨ k = 17) with rfl | rfl | rfl | rfl <;> (simp [may3] at m; exact m.1)
      have : s = E0 := by
        apply ByteArray.ext
        rw [ByteArray.toList_eq] at q
        exact Array.toList_inj.mp q
      subst this
      exact tback_yes k b w h0 h1 g m hP hT u
  · exact tback_no k b s w h0 h1 hk hs hP hT u (Or.inr g)
end
end Go.Proofs.YtpdnlojennhmpaaGreatDoor
