/- What the statement's function of ValueBack answers; no statement of the seat is proved here. -/
import Derived.Test.YtnklphdogdbiiaaGreatDoorBkV
import Derived.Test.YtnklphdogdbiiaaGreatDoorIntRV
namespace Go.Proofs.YtnklphdogdbiiaaGreatDoor
set_option linter.unusedVariables false
open Go.RowKit
theorem intR_cases (k n : Int) : (∃ b, intR k n = .tuple #[V k b E0, .int .i64 0] ∧ (1 ≤ k ∧ k ≤ 17) ∧ b = n % 18446744073709551616 ∧ fitOk k n = true) ∨ ∃ g, g ≠ 0 ∧ intR k n = .tuple #[V 0 0 E0, .int .i64 g] := by
  unfold intR
  by_cases h : 1 ≤ k ∧ k ≤ 17
  · rw [if_pos h]
    cases c : fitOk k n
    · right
      exact ⟨1, by omega, rfl⟩
    · left
      exact ⟨_, rfl, h, rfl, rfl⟩
  · rw [if_neg h]
    right
    exact ⟨8, by omega, rfl⟩
set_option maxHeartbeats 1000000 in
theorem sameB_of (k b : Int) (s : ByteArray) (f : Int) (w : World) :
    Calls Tryz.prog 6 #[V k b s, .int .i64 f, V k b s, .int .i64 f] w fun e w' => e = .returned (.bool true) ∧ Below w.heap.size w w' := by
  go_enter Tryz.func6, Tryz.ntmps6
  go_wp2
  go_ret
  exact ⟨rfl, ((Below.refl _ _).alloc (Nat.le_refl _) _).alloc (by simp) _⟩
section
variable (k l n : Int) (w : World)
set_option maxRecDepth 100000 in
set_option maxHeartbeats 4000000 in
theorem Back_of (hk : 0 ≤ k ∧ k < 256) (hl : 0 ≤ l ∧ l < 256) (hn : -9223372036854775808 ≤ n ∧ n < 9223372036854775808) (hP : Pow w) :
    Calls Tryz.prog 3 #[.int .u8 k, .int .u8 l, .int .i64 n] w fun e w' => e = .returned (.bool true) ∧ Below w.heap.size w w' := by
  have I1 : Hid (∀ w, Calls Tryz.prog 4 #[.int .u8 k, .int .i64 n] w fun e w' => e = .returned (intR k n) ∧ Below w.heap.size w w') := fun w => Int_of k n w hk hn
  have I2 : Hid (∀ w, Calls Tryz.prog 5 #[.int .u8 k, .int .i64 n] w fun e w' => e = .returned (intR k n) ∧ Below w.heap.size w w') := fun w => IntR_of k n w hk hn
  have SM : Hid (∀ k b s f w, Calls Tryz.prog 6 #[V k b s, .int .i64 f, V k b s, .int .i64 f] w fun e w' => e = .returned (.bool true) ∧ Below w.heap.size w w') := fun k b s f w => sameB_of k b s f w
  have HP : Hid (Pow w) := hP
  clear hP
  rcases intR_cases k n with ⟨b, eI, hkk, eb, fit⟩ | ⟨g, g0, eI⟩
  · rw [eI] at I1 I2
    have b0 : 0 ≤ b := by omega
    have b1 : b < 18446744073709551616 := by omega
    by_cases ki : 2 ≤ k ∧ k ≤ 9
    · have m : may3 k b E0 = true := by
        unfold fitOk at fit
        simp only [Bool.and_eq_true] at fit
        rw [eb]
        exact fit.1
      have nn : num k b = n := by
        unfold fitOk at fit
        simp only [Bool.and_eq_true, decide_eq_true_eq] at fit
        rw [eb]
        exact fit.2
      have CS : Hid (∀ w, Pow w → Calls Tryz.prog 8 #[.int .u8 19, V k b E0] w fun e w' => e = .returned (.tuple #[V 19 0 (numS n), .int .i64 0]) ∧ Below w.heap.size w w') := fun w h => by
        have := Convert_plain 19 k b E0 w b0 b1 (by omega) (by omega) (Nat.zero_le _) m (by omega) h 19 0 0 (numS (num k b)) (fun w h => fp_text_is k b E0 w b0 b1 (Nat.zero_le _) ki m h)
        rwa [nn] at this
      have CT : Hid (∀ w, Calls Tryz.prog 8 #[.int .u8 k, V 19 0 (numS n)] w fun e w' => e = .returned (.tuple #[V k b E0, .int .i64 0]) ∧ Below w.heap.size w w') := fun w => by
        have := Convert_text k w n ki (by omega) (by omega) fit
        rwa [← eb] at this
      have CR : Hid (∀ w, Pow w → Calls Tryz.prog 9 #[.int .u8 l, V k b E0] w fun e w' => RcOk l n e ∧ Below w.heap.size w w') := fun w h => by
        have := ConvertR_of l k b w b0 b1 hl ki m h
        rwa [nn] at this
      have YZ : Hid (2 ≤ l ∧ l ≤ 9 → fitOk l n = true → (∀ w, Pow w → Calls Tryz.prog 8 #[.int .u8 l, V k b E0] w fun e w' => e = .returned (.tuple #[V l b E0, .int .i64 0]) ∧ Below w.heap.size w w') ∧ ∀ w, Pow w → Calls Tryz.prog 8 #[.int .u8 k, V l b E0] w fun e w' => e = .returned (.tuple #[V k b E0, .int .i64 0]) ∧ Below w.heap.size w w') := fun li fl => by
        have ml : may3 l b E0 = true := by
          unfold fitOk at fl
          simp only [Bool.and_eq_true] at fl
          rw [eb]
          exact fl.1
        have nl : num l b = n := by
          unfold fitOk at fl
          simp only [Bool.and_eq_true, decide_eq_true_eq] at fl
          rw [eb]
          exact fl.2
        by_cases e : k = l
        · subst e
          exact ⟨fun w _ => Convert_same k b E0 w b0 b1 (by omega) (Nat.zero_le _) m, fun w _ => Convert_same k b E0 w b0 b1 (by omega) (Nat.zero_le _) m⟩
        · constructor
          · intro w h
            refine Convert_plain l k b E0 w b0 b1 (by omega) (by omega) (Nat.zero_le _) m e h l b 0 E0 (fun w _ => ?_)
            have := fp_int_yes l k b E0 w b0 b1 li (by rw [nn]; exact fl)
            rwa [nn, ← eb] at this
          · intro w h
            refine Convert_plain k l b E0 w b0 b1 (by omega) (by omega) (Nat.zero_le _) ml (fun q => e q.symm) h k b 0 E0 (fun w _ => ?_)
            have := fp_int_yes k l b E0 w b0 b1 ki (by rw [nl]; exact fit)
            rwa [nl, ← eb] at this
      clear eI eb fit m nn
      generalize numS n = t at *
      go_enter Tryz.func3, Tryz.ntmps3
      go_wp2_with fail
      refine (I1.out _).mono ?_
      rintro e w1 ⟨rfl, hb⟩
      have B1 : Hid (Below w.heap.size w w1) := hb
      have l1 := hb.size
      clear hb
      go_wp2_with fail
      refine (I2.out _).mono ?_
      rintro e w2 ⟨rfl, hb⟩
      have B2 : Hid (Below w.heap.size w w2) := (B1.out.alloc (by omega) _).trans (hb.mono (by simp; omega))
      have V2 : Hid (Lies w2 w1.heap.size k b E0) := (Lies.new w1 k b E0 _).next hb
      clear hb
      obtain ⟨v0, c00, c01, c02⟩ := V2.out
      go_wp2_with fail
      refine (SM.out _ _ _ _ _).mono ?_
      rintro e w3 ⟨rfl, hb⟩
      have B3 : Hid (Below w.heap.size w w3) := (B2.out.alloc B2.out.size _).trans (hb.mono (by have := B2.out.size; simp; omega))
      have V3 : Hid (Lies w3 w1.heap.size k b E0) := (V2.out.alloc _).next hb
      have W3 : Hid (Lies w3 w2.heap.size k b E0) := (Lies.new w2 k b E0 _).next hb
      have P3 : Hid (Pow w3) := pow_below HP.out B3.out
      clear hb v0 c00 c01 c02
      obtain ⟨v0, c00, c01, c02⟩ := V3.out
      obtain ⟨v1, c10, c11, c12⟩ := W3.out
      go_wp2_with (first
        | (go_at_call 7; refine (IntegerR_is k _ true hk (by symm; simp; omega)).mono ?_; rintro e wq ⟨rfl, rfl⟩))
      refine (CS.out _ P3.out).mono ?_
      rintro e w4 ⟨rfl, hb⟩
      have B4 : Hid (Below w.heap.size w w4) := B3.out.trans (hb.mono B3.out.size)
      have V4 : Hid (Lies w4 w1.heap.size k b E0) := V3.out.next hb
      have W4 : Hid (Lies w4 w2.heap.size k b E0) := W3.out.next hb
      clear hb v0 c00 c01 c02 v1 c10 c11 c12
      obtain ⟨v0, c00, c01, c02⟩ := V4.out
      obtain ⟨v1, c10, c11, c12⟩ := W4.out
      go_wp2_with fail
      refine (CT.out _).mono ?_
      rintro e w5 ⟨rfl, hb⟩
      have B5 : Hid (Below w.heap.size w w5) := (B4.out.alloc B4.out.size _).trans (hb.mono (by have := B4.out.size; simp; omega))
      have V5 : Hid (Lies w5 w1.heap.size k b E0) := (V4.out.alloc _).next hb
      have W5 : Hid (Lies w5 w2.heap.size k b E0) := (W4.out.alloc _).next hb
      have s5 := B5.out.size
      clear hb v0 c00 c01 c02 v1 c10 c11 c12
      obtain ⟨v0, c00, c01, c02⟩ := V5.out
      obtain ⟨v1, c10, c11, c12⟩ := W5.out
      have P5 : Hid (∀ o, Pow (w5.alloc o)) := fun o => pow_below HP.out (B5.out.alloc s5 o)
      go_wp2_with fail
      refine (CR.out _ (P5.out _)).mono ?_
      rintro e w6 ⟨⟨k', b', s', g, rfl, hg⟩, hb⟩
      have B6 : Hid (Below w.heap.size w w6) := (B5.out.alloc s5 _).trans (hb.mono (by simp; omega))
      have V6 : Hid (Lies w6 w1.heap.size k b E0) := (V5.out.alloc _).next hb
      have s6 := B6.out.size
      clear hb v0 c00 c01 c02 v1 c10 c11 c12
      obtain ⟨v0, c00, c01, c02⟩ := V6.out
      by_cases g0 : g = 0
      · subst g0
        by_cases li : 2 ≤ l ∧ l ≤ 9
        · obtain ⟨Y, Z⟩ := YZ.out li (hg li rfl)
          have YH : Hid _ := Y
          have ZH : Hid _ := Z
          have P6 : Hid (∀ o, Pow (w6.alloc o)) := fun o => pow_below HP.out (B6.out.alloc s6 o)
          clear Y Z hg
          go_wp2_with (first
            | (go_at_call 7; refine (IntegerR_is l _ true hl (by symm; simp; omega)).mono ?_; rintro e wq ⟨rfl, rfl⟩))
          refine (YH.out _ (P6.out _)).mono ?_
          rintro e w7 ⟨rfl, hb⟩
          have B7 : Hid (Below w.heap.size w w7) := (B6.out.alloc s6 _).trans (hb.mono (by simp; omega))
          have V7 : Hid (Lies w7 w1.heap.size k b E0) := (V6.out.alloc _).next hb
          have s7 := B7.out.size
          clear hb v0 c00 c01 c02
          obtain ⟨v0, c00, c01, c02⟩ := V7.out
          have P7 : Hid (∀ o, Pow (w7.alloc o)) := fun o => pow_below HP.out (B7.out.alloc s7 o)
          go_wp2_with fail
          refine (ZH.out _ (P7.out _)).mono ?_
          rintro e w8 ⟨rfl, hb⟩
          have B8 : Hid (Below w.heap.size w w8) := (B7.out.alloc s7 _).trans (hb.mono (by simp; omega))
          have V8 : Hid (Lies w8 w1.heap.size k b E0) := (V7.out.alloc _).next hb
          have s8 := B8.out.size
          clear hb v0 c00 c01 c02
          obtain ⟨v0, c00, c01, c02⟩ := V8.out
          go_wp2
          go_ret
          exact ⟨rfl, B8.out.alloc s8 _⟩
        · go_wp2_with (first
            | (go_at_call 7; refine (IntegerR_is l _ false hl (by symm; simp; omega)).mono ?_; rintro e wq ⟨rfl, rfl⟩))
          go_ret
          exact ⟨rfl, B6.out.alloc s6 _⟩
      · have g1 : (g == 0) = false := by simpa using g0
        have g2 : (g != 0) = true := by simpa using g0
        go_wp2
        go_ret
        exact ⟨rfl, B6.out.alloc s6 _⟩
    · clear eI eb fit
      go_enter Tryz.func3, Tryz.ntmps3
      go_wp2_with fail
      refine (I1.out _).mono ?_
      rintro e w1 ⟨rfl, hb⟩
      have B1 : Hid (Below w.heap.size w w1) := hb
      have l1 := hb.size
      clear hb
      go_wp2_with fail
      refine (I2.out _).mono ?_
      rintro e w2 ⟨rfl, hb⟩
      have B2 : Hid (Below w.heap.size w w2) := (B1.out.alloc (by omega) _).trans (hb.mono (by simp; omega))
      have V2 : Hid (Lies w2 w1.heap.size k b E0) := (Lies.new w1 k b E0 _).next hb
      clear hb
      obtain ⟨v0, c00, c01, c02⟩ := V2.out
      go_wp2_with fail
      refine (SM.out _ _ _ _ _).mono ?_
      rintro e w3 ⟨rfl, hb⟩
      have B3 : Hid (Below w.heap.size w w3) := (B2.out.alloc B2.out.size _).trans (hb.mono (by have := B2.out.size; simp; omega))
      clear hb v0 c00 c01 c02
      go_wp2_with (first
        | (go_at_call 7; refine (IntegerR_is k _ false hk (by symm; simp; omega)).mono ?_; rintro e wq ⟨rfl, rfl⟩))
      go_ret
      exact ⟨rfl, B3.out⟩
  · rw [eI] at I1 I2
    clear eI
    have g1 : (g == 0) = false := by simpa using g0
    have g2 : (g != 0) = true := by simpa using g0
    go_enter Tryz.func3, Tryz.ntmps3
    go_wp2_with fail
    refine (I1.out _).mono ?_
    rintro e w1 ⟨rfl, hb⟩
    have B1 : Hid (Below w.heap.size w w1) := hb
    have l1 := hb.size
    clear hb
    go_wp2_with fail
    refine (I2.out _).mono ?_
    rintro e w2 ⟨rfl, hb⟩
    have B2 : Hid (Below w.heap.size w w2) := (B1.out.alloc (by omega) _).trans (hb.mono (by simp; omega))
    have V2 : Hid (Lies w2 w1.heap.size 0 0 E0) := (Lies.new w1 0 0 E0 _).next hb
    clear hb
    obtain ⟨v0, c00, c01, c02⟩ := V2.out
    go_wp2_with fail
    refine (SM.out _ _ _ _ _).mono ?_
    rintro e w3 ⟨rfl, hb⟩
    have B3 : Hid (Below w.heap.size w w3) := (B2.out.alloc B2.out.size _).trans (hb.mono (by have := B2.out.size; simp; omega))
    clear hb v0 c00 c01 c02
    go_wp2
    go_ret
    exact ⟨rfl, B3.out⟩
end
end Go.Proofs.YtnklphdogdbiiaaGreatDoor
