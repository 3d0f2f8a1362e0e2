/- ValueOrder is proved: for every two values the statement's function returns true, and its arguments read as they did; no condition. -/
import Derived.Test.YtdnpeghdfhjmaabTruth
import Derived.Test.YtdnpeghdfhjmaabOpen
import Derived.ShutString
import Derived.ChangeOld
import Derived.Below
namespace Go.Proofs.Ytdnpeghdfhjmaab.LawOrder
set_option linter.unusedVariables false
open Go.ChangeShapes Go.WideShapes Go.ChangeAt Go.RowKit
theorem own : ownKnob Try.prog.godebug = none := by kernel_rfl
theorem laidOut : laidOutB Try.prog = true := by kernel_rfl
/-- Two values lie in two boxes, one behind the other. -/
structure Two (W : World) (h : Nat) (k b : Int) (s : ByteArray) (k' c : Int) (t : ByteArray) : Prop where
  lt : h + 1 < W.heap.size
  a0 : W.cell? ⟨h, 0, none⟩ = some (.int .u8 k)
  a1 : W.cell? ⟨h, 1, none⟩ = some (.int .u64 b)
  a2 : W.cell? ⟨h, 2, none⟩ = some (.string s)
  b0 : W.cell? ⟨h + 1, 0, none⟩ = some (.int .u8 k')
  b1 : W.cell? ⟨h + 1, 1, none⟩ = some (.int .u64 c)
  b2 : W.cell? ⟨h + 1, 2, none⟩ = some (.string t)
theorem Two.next {W w' : World} {h : Nat} {k b k' c : Int} {s t : ByteArray} (x : Two W h k b s k' c t) (hb : Below W.heap.size W w') : Two w' h k b s k' c t := by
  have l := x.lt
  refine ⟨Nat.lt_of_lt_of_le l hb.size, ?_, ?_, ?_, ?_, ?_, ?_⟩
  · rw [hb.cell (p := ⟨h, 0, none⟩) (by simp; omega)]; exact x.a0
  · rw [hb.cell (p := ⟨h, 1, none⟩) (by simp; omega)]; exact x.a1
  · rw [hb.cell (p := ⟨h, 2, none⟩) (by simp; omega)]; exact x.a2
  · rw [hb.cell (p := ⟨h + 1, 0, none⟩) (by simp; omega)]; exact x.b0
  · rw [hb.cell (p := ⟨h + 1, 1, none⟩) (by simp; omega)]; exact x.b1
  · rw [hb.cell (p := ⟨h + 1, 2, none⟩) (by simp; omega)]; exact x.b2
theorem Two.new (W : World) (k b : Int) (s : ByteArray) (k' c : Int) (t : ByteArray) (u v : TypeId) : Two ((W.alloc (.cells #[.int .u8 k, .int .u64 b, .string s] u)).alloc (.cells #[.int .u8 k', .int .u64 c, .string t] v)) W.heap.size k b s k' c t :=
  ⟨by simp, by simp, by simp, by simp, by simp, by simp, by simp⟩
section
variable (k b k' c : Int) (s t : ByteArray) (w : World)
theorem MayR_is (k b : Int) (s : ByteArray) (w : World) (p : Bool) (h0 : 0 ≤ b) (h1 : b < 18446744073709551616) (hk : 0 ≤ k ∧ k < 256) (hs : s.size ≤ maxLen) (h : may3 k b s = p) :
    Calls Try.prog 6 #[V k b s] w fun e w' => e = .returned (.bool p) ∧ Below w.heap.size w w' := by
  rw [← h]; exact MayR_of k b s w h0 h1 hk hs
set_option maxHeartbeats 2000000 in
theorem walk_x (h0 : 0 ≤ b) (h1 : b < 18446744073709551616) (hk : 0 ≤ k ∧ k < 256) (hs : s.size ≤ maxLen) (g0 : 0 ≤ c) (g1 : c < 18446744073709551616) (gk : 0 ≤ k' ∧ k' < 256) (gs : t.size ≤ maxLen)
    (R : ∀ op, (op = 9 ∨ op = 10 ∨ op = 11 ∨ op = 13) → ∀ w, Calls Try.prog 9 #[.int .i64 op, V k b s, V k' c t] w fun e w' => e = .returned (.tuple #[V 0 0 E0, .int .i64 8]) ∧ Below w.heap.size w w') (m : may3 k b s = false) :
    Calls Try.prog 3 #[V k b s, V k' c t] w fun e w' => e = .returned (.bool true) ∧ Below w.heap.size w w' := by
  have R' : Hid _ := R
  clear R
  have M1 : Hid _ := m
  skip
  clear m
  skip
  go_enter Try.func3, Try.ntmps3
  go_wp2_with fail
  refine (truth_no 11 k b k' c s t _ (R'.out 11 (by omega))).mono ?_
  rintro e w1 ⟨rfl, hb⟩
  have B1 : Hid (Below w.heap.size w w1) := (((Below.refl _ _).alloc (Nat.le_refl _) _).alloc (by simp) _).trans (hb.mono (by simp; omega))
  have X1 : Hid (Two w1 w.heap.size k b s k' c t) := (Two.new w k b s k' c t _ _).next hb
  clear hb
  obtain ⟨l, a0, a1, a2, b0, b1, b2⟩ := X1.out
  go_wp2_with fail
  refine (truth_no 9 k b k' c s t _ (R'.out 9 (by omega))).mono ?_
  rintro e w2 ⟨rfl, hb⟩
  have B2 : Hid (Below w.heap.size w w2) := B1.out.trans (hb.mono (by omega))
  have X2 : Hid (Two w2 w.heap.size k b s k' c t) := X1.out.next hb
  clear hb B1 X1 l a0 a1 a2 b0 b1 b2
  obtain ⟨l, a0, a1, a2, b0, b1, b2⟩ := X2.out
  go_wp2_with fail
  refine (truth_no 13 k b k' c s t _ (R'.out 13 (by omega))).mono ?_
  rintro e w3 ⟨rfl, hb⟩
  have B3 : Hid (Below w.heap.size w w3) := B2.out.trans (hb.mono (by omega))
  have X3 : Hid (Two w3 w.heap.size k b s k' c t) := X2.out.next hb
  clear hb B2 X2 l a0 a1 a2 b0 b1 b2
  obtain ⟨l, a0, a1, a2, b0, b1, b2⟩ := X3.out
  go_wp2_with fail
  refine (MayR_is _ _ _ _ false h0 h1 hk hs M1.out).mono ?_
  rintro e w4 ⟨rfl, hb⟩
  have B4 : Hid (Below w.heap.size w w4) := B3.out.trans (hb.mono (by omega))
  have X4 : Hid (Two w4 w.heap.size k b s k' c t) := X3.out.next hb
  clear hb B3 X3 l a0 a1 a2 b0 b1 b2
  obtain ⟨l, a0, a1, a2, b0, b1, b2⟩ := X4.out
  go_wp2
  go_ret
  exact ⟨rfl, B4.out⟩
set_option maxHeartbeats 2000000 in
theorem walk_y (h0 : 0 ≤ b) (h1 : b < 18446744073709551616) (hk : 0 ≤ k ∧ k < 256) (hs : s.size ≤ maxLen) (g0 : 0 ≤ c) (g1 : c < 18446744073709551616) (gk : 0 ≤ k' ∧ k' < 256) (gs : t.size ≤ maxLen)
    (R : ∀ op, (op = 9 ∨ op = 10 ∨ op = 11 ∨ op = 13) → ∀ w, Calls Try.prog 9 #[.int .i64 op, V k b s, V k' c t] w fun e w' => e = .returned (.tuple #[V 0 0 E0, .int .i64 8]) ∧ Below w.heap.size w w') (m : may3 k b s = true) (n : may3 k' c t = false) :
    Calls Try.prog 3 #[V k b s, V k' c t] w fun e w' => e = .returned (.bool true) ∧ Below w.heap.size w w' := by
  have R' : Hid _ := R
  clear R
  have M1 : Hid _ := m
  have M2 : Hid _ := n
  clear m
  clear n
  go_enter Try.func3, Try.ntmps3
  go_wp2_with fail
  refine (truth_no 11 k b k' c s t _ (R'.out 11 (by omega))).mono ?_
  rintro e w1 ⟨rfl, hb⟩
  have B1 : Hid (Below w.heap.size w w1) := (((Below.refl _ _).alloc (Nat.le_refl _) _).alloc (by simp) _).trans (hb.mono (by simp; omega))
  have X1 : Hid (Two w1 w.heap.size k b s k' c t) := (Two.new w k b s k' c t _ _).next hb
  clear hb
  obtain ⟨l, a0, a1, a2, b0, b1, b2⟩ := X1.out
  go_wp2_with fail
  refine (truth_no 9 k b k' c s t _ (R'.out 9 (by omega))).mono ?_
  rintro e w2 ⟨rfl, hb⟩
  have B2 : Hid (Below w.heap.size w w2) := B1.out.trans (hb.mono (by omega))
  have X2 : Hid (Two w2 w.heap.size k b s k' c t) := X1.out.next hb
  clear hb B1 X1 l a0 a1 a2 b0 b1 b2
  obtain ⟨l, a0, a1, a2, b0, b1, b2⟩ := X2.out
  go_wp2_with fail
  refine (truth_no 13 k b k' c s t _ (R'.out 13 (by omega))).mono ?_
  rintro e w3 ⟨rfl, hb⟩
  have B3 : Hid (Below w.heap.size w w3) := B2.out.trans (hb.mono (by omega))
  have X3 : Hid (Two w3 w.heap.size k b s k' c t) := X2.out.next hb
  clear hb B2 X2 l a0 a1 a2 b0 b1 b2
  obtain ⟨l, a0, a1, a2, b0, b1, b2⟩ := X3.out
  go_wp2_with fail
  refine (MayR_is _ _ _ _ true h0 h1 hk hs M1.out).mono ?_
  rintro e w4 ⟨rfl, hb⟩
  have B4 : Hid (Below w.heap.size w w4) := B3.out.trans (hb.mono (by omega))
  have X4 : Hid (Two w4 w.heap.size k b s k' c t) := X3.out.next hb
  clear hb B3 X3 l a0 a1 a2 b0 b1 b2
  obtain ⟨l, a0, a1, a2, b0, b1, b2⟩ := X4.out
  go_wp2_with fail
  refine (MayR_is _ _ _ _ false g0 g1 gk gs M2.out).mono ?_
  rintro e w5 ⟨rfl, hb⟩
  have B5 : Hid (Below w.heap.size w w5) := B4.out.trans (hb.mono (by omega))
  have X5 : Hid (Two w5 w.heap.size k b s k' c t) := X4.out.next hb
  clear hb B4 X4 l a0 a1 a2 b0 b1 b2
  obtain ⟨l, a0, a1, a2, b0, b1, b2⟩ := X5.out
  go_wp2
  go_ret
  exact ⟨rfl, B5.out⟩
set_option maxHeartbeats 2000000 in
theorem walk_z (h0 : 0 ≤ b) (h1 : b < 18446744073709551616) (hk : 0 ≤ k ∧ k < 256) (hs : s.size ≤ maxLen) (g0 : 0 ≤ c) (g1 : c < 18446744073709551616) (gk : 0 ≤ k' ∧ k' < 256) (gs : t.size ≤ maxLen)
    (R : ∀ op, (op = 9 ∨ op = 10 ∨ op = 11 ∨ op = 13) → ∀ w, Calls Try.prog 9 #[.int .i64 op, V k b s, V k' c t] w fun e w' => e = .returned (.tuple #[V 0 0 E0, .int .i64 8]) ∧ Below w.heap.size w w') (m : may3 k b s = true) (n : may3 k' c t = true) (d : (k != k') = true) :
    Calls Try.prog 3 #[V k b s, V k' c t] w fun e w' => e = .returned (.bool true) ∧ Below w.heap.size w w' := by
  have R' : Hid _ := R
  clear R
  have M1 : Hid _ := m
  have M2 : Hid _ := n
  clear m
  clear n
  go_enter Try.func3, Try.ntmps3
  go_wp2_with fail
  refine (truth_no 11 k b k' c s t _ (R'.out 11 (by omega))).mono ?_
  rintro e w1 ⟨rfl, hb⟩
  have B1 : Hid (Below w.heap.size w w1) := (((Below.refl _ _).alloc (Nat.le_refl _) _).alloc (by simp) _).trans (hb.mono (by simp; omega))
  have X1 : Hid (Two w1 w.heap.size k b s k' c t) := (Two.new w k b s k' c t _ _).next hb
  clear hb
  obtain ⟨l, a0, a1, a2, b0, b1, b2⟩ := X1.out
  go_wp2_with fail
  refine (truth_no 9 k b k' c s t _ (R'.out 9 (by omega))).mono ?_
  rintro e w2 ⟨rfl, hb⟩
  have B2 : Hid (Below w.heap.size w w2) := B1.out.trans (hb.mono (by omega))
  have X2 : Hid (Two w2 w.heap.size k b s k' c t) := X1.out.next hb
  clear hb B1 X1 l a0 a1 a2 b0 b1 b2
  obtain ⟨l, a0, a1, a2, b0, b1, b2⟩ := X2.out
  go_wp2_with fail
  refine (truth_no 13 k b k' c s t _ (R'.out 13 (by omega))).mono ?_
  rintro e w3 ⟨rfl, hb⟩
  have B3 : Hid (Below w.heap.size w w3) := B2.out.trans (hb.mono (by omega))
  have X3 : Hid (Two w3 w.heap.size k b s k' c t) := X2.out.next hb
  clear hb B2 X2 l a0 a1 a2 b0 b1 b2
  obtain ⟨l, a0, a1, a2, b0, b1, b2⟩ := X3.out
  go_wp2_with fail
  refine (MayR_is _ _ _ _ true h0 h1 hk hs M1.out).mono ?_
  rintro e w4 ⟨rfl, hb⟩
  have B4 : Hid (Below w.heap.size w w4) := B3.out.trans (hb.mono (by omega))
  have X4 : Hid (Two w4 w.heap.size k b s k' c t) := X3.out.next hb
  clear hb B3 X3 l a0 a1 a2 b0 b1 b2
  obtain ⟨l, a0, a1, a2, b0, b1, b2⟩ := X4.out
  go_wp2_with fail
  refine (MayR_is _ _ _ _ true g0 g1 gk gs M2.out).mono ?_
  rintro e w5 ⟨rfl, hb⟩
  have B5 : Hid (Below w.heap.size w w5) := B4.out.trans (hb.mono (by omega))
  have X5 : Hid (Two w5 w.heap.size k b s k' c t) := X4.out.next hb
  clear hb B4 X4 l a0 a1 a2 b0 b1 b2
  obtain ⟨l, a0, a1, a2, b0, b1, b2⟩ := X5.out
  go_wp2
  go_ret
  exact ⟨rfl, B5.out⟩
set_option maxHeartbeats 4000000 in
theorem walk_ol (h0 : 0 ≤ b) (h1 : b < 18446744073709551616) (hk : 0 ≤ k ∧ k < 256) (hs : s.size ≤ maxLen) (g0 : 0 ≤ c) (g1 : c < 18446744073709551616) (gs : t.size ≤ maxLen) (m : may3 k b s = true) (n : may3 k c t = true)
    (R : ∀ op, (op = 9 ∨ op = 10 ∨ op = 11 ∨ op = 13) → ∀ w, Calls Try.prog 9 #[.int .i64 op, V k b s, V k c t] w fun e w' => e = .returned (.tuple #[V 1 (tb (hB op k b c s t)) E0, .int .i64 0]) ∧ Below w.heap.size w w')
    (eL : cL k b c s t = true) (eE : cE k b c s t = false) (eM : cM k b c s t = false) (d : (k == 18) = false) :
    Calls Try.prog 3 #[V k b s, V k c t] w fun e w' => e = .returned (.bool true) ∧ Below w.heap.size w w' := by
  have q11 := R 11 (by omega)
  have q9 := R 9 (by omega)
  have q13 := R 13 (by omega)
  have q10 := R 10 (by omega)
  have e11 : hB 11 k b c s t = true := by simp [hB, eL]
  have e9 : hB 9 k b c s t = false := by simp [hB, eE]
  have e13 : hB 13 k b c s t = false := by simp [hB, eM]
  have e10 : hB 10 k b c s t = true := by simp [hB, eE]
  rw [e11] at q11
  rw [e9] at q9
  rw [e13] at q13
  rw [e10] at q10
  have Q11 : Hid _ := q11
  have Q9 : Hid _ := q9
  have Q13 : Hid _ := q13
  have Q10 : Hid _ := q10
  have M1 : Hid _ := m
  have M2 : Hid _ := n
  clear R q11 q9 q13 q10 e11 e9 e13 e10 eL eE eM m n
  go_enter Try.func3, Try.ntmps3
  go_wp2_with fail
  refine (truth_yes 11 k b k c s t _ true Q11.out).mono ?_
  rintro e w1 ⟨rfl, hb⟩
  have B1 : Hid (Below w.heap.size w w1) := (((Below.refl _ _).alloc (Nat.le_refl _) _).alloc (by simp) _).trans (hb.mono (by simp; omega))
  have X1 : Hid (Two w1 w.heap.size k b s k c t) := (Two.new w k b s k c t _ _).next hb
  clear hb
  obtain ⟨l, a0, a1, a2, b0, b1, b2⟩ := X1.out
  go_wp2_with fail
  refine (truth_yes 9 k b k c s t _ false Q9.out).mono ?_
  rintro e w2 ⟨rfl, hb⟩
  have B2 : Hid (Below w.heap.size w w2) := B1.out.trans (hb.mono (by omega))
  have X2 : Hid (Two w2 w.heap.size k b s k c t) := X1.out.next hb
  clear hb B1 X1 l a0 a1 a2 b0 b1 b2
  obtain ⟨l, a0, a1, a2, b0, b1, b2⟩ := X2.out
  go_wp2_with fail
  refine (truth_yes 13 k b k c s t _ false Q13.out).mono ?_
  rintro e w3 ⟨rfl, hb⟩
  have B3 : Hid (Below w.heap.size w w3) := B2.out.trans (hb.mono (by omega))
  have X3 : Hid (Two w3 w.heap.size k b s k c t) := X2.out.next hb
  clear hb B2 X2 l a0 a1 a2 b0 b1 b2
  obtain ⟨l, a0, a1, a2, b0, b1, b2⟩ := X3.out
  go_wp2_with fail
  refine (MayR_is _ _ _ _ true h0 h1 hk hs M1.out).mono ?_
  rintro e w4 ⟨rfl, hb⟩
  have B4 : Hid (Below w.heap.size w w4) := B3.out.trans (hb.mono (by omega))
  have X4 : Hid (Two w4 w.heap.size k b s k c t) := X3.out.next hb
  clear hb B3 X3 l a0 a1 a2 b0 b1 b2
  obtain ⟨l, a0, a1, a2, b0, b1, b2⟩ := X4.out
  go_wp2_with fail
  refine (MayR_is _ _ _ _ true g0 g1 hk gs M2.out).mono ?_
  rintro e w5 ⟨rfl, hb⟩
  have B5 : Hid (Below w.heap.size w w5) := B4.out.trans (hb.mono (by omega))
  have X5 : Hid (Two w5 w.heap.size k b s k c t) := X4.out.next hb
  clear hb B4 X4 l a0 a1 a2 b0 b1 b2
  obtain ⟨l, a0, a1, a2, b0, b1, b2⟩ := X5.out
  have l0 : w.heap.size < w5.heap.size := by omega
  go_wp2
  go_loop [11, 74] (fun x i => (i = .int .i64 0 ∧ x = .int .i64 0) ∨ (i = .int .i64 1 ∧ x = .int .i64 1) ∨ (i = .int .i64 2 ∧ x = .int .i64 1) ∨ (i = .int .i64 3 ∧ x = .int .i64 1)) (fun _ i => 3 - (intOf i).toNat)
  case atStart => exact .inl ⟨rfl, rfl⟩
  case round =>
    rcases hrel with ⟨rfl, rfl⟩ | ⟨rfl, rfl⟩ | ⟨rfl, rfl⟩ | ⟨rfl, rfl⟩
    · go_wp2
      go_round
      case rel => exact .inr (.inl ⟨rfl, rfl⟩)
      case measure => simp [intOf]
    · go_wp2
      go_round
      case rel => exact .inr (.inr (.inl ⟨rfl, rfl⟩))
      case measure => simp [intOf]
    · go_wp2
      go_round
      case rel => exact .inr (.inr (.inr ⟨rfl, rfl⟩))
      case measure => simp [intOf]
    · go_wp2_with fail
      refine (truth_yes 10 k b k c s t _ true Q10.out).mono ?_
      rintro e w6 ⟨rfl, hb⟩
      have BB : Hid (Below w.heap.size w w6) := (B5.out.alloc (by omega) _).trans (hb.mono (by simp; omega))
      clear hb
      go_wp2
      go_ret
      exact ⟨rfl, BB.out⟩
set_option maxHeartbeats 4000000 in
theorem walk_fl (h0 : 0 ≤ b) (h1 : b < 18446744073709551616) (hk : 0 ≤ k ∧ k < 256) (hs : s.size ≤ maxLen) (g0 : 0 ≤ c) (g1 : c < 18446744073709551616) (gs : t.size ≤ maxLen) (m : may3 k b s = true) (n : may3 k c t = true)
    (R : ∀ op, (op = 9 ∨ op = 10 ∨ op = 11 ∨ op = 13) → ∀ w, Calls Try.prog 9 #[.int .i64 op, V k b s, V k c t] w fun e w' => e = .returned (.tuple #[V 1 (tb (hB op k b c s t)) E0, .int .i64 0]) ∧ Below w.heap.size w w')
    (eL : cL k b c s t = true) (eE : cE k b c s t = false) (eM : cM k b c s t = false) (d : (k == 18) = true) (f1 : (b == 9221120237041090561) = false) (f2 : (c == 9221120237041090561) = false) :
    Calls Try.prog 3 #[V k b s, V k c t] w fun e w' => e = .returned (.bool true) ∧ Below w.heap.size w w' := by
  have q11 := R 11 (by omega)
  have q9 := R 9 (by omega)
  have q13 := R 13 (by omega)
  have q10 := R 10 (by omega)
  have e11 : hB 11 k b c s t = true := by simp [hB, eL]
  have e9 : hB 9 k b c s t = false := by simp [hB, eE]
  have e13 : hB 13 k b c s t = false := by simp [hB, eM]
  have e10 : hB 10 k b c s t = true := by simp [hB, eE]
  rw [e11] at q11
  rw [e9] at q9
  rw [e13] at q13
  rw [e10] at q10
  have Q11 : Hid _ := q11
  have Q9 : Hid _ := q9
  have Q13 : Hid _ := q13
  have Q10 : Hid _ := q10
  have M1 : Hid _ := m
  have M2 : Hid _ := n
  clear R q11 q9 q13 q10 e11 e9 e13 e10 eL eE eM m n
  go_enter Try.func3, Try.ntmps3
  go_wp2_with fail
  refine (truth_yes 11 k b k c s t _ true Q11.out).mono ?_
  rintro e w1 ⟨rfl, hb⟩
  have B1 : Hid (Below w.heap.size w w1) := (((Below.refl _ _).alloc (Nat.le_refl _) _).alloc (by simp) _).trans (hb.mono (by simp; omega))
  have X1 : Hid (Two w1 w.heap.size k b s k c t) := (Two.new w k b s k c t _ _).next hb
  clear hb
  obtain ⟨l, a0, a1, a2, b0, b1, b2⟩ := X1.out
  go_wp2_with fail
  refine (truth_yes 9 k b k c s t _ false Q9.out).mono ?_
  rintro e w2 ⟨rfl, hb⟩
  have B2 : Hid (Below w.heap.size w w2) := B1.out.trans (hb.mono (by omega))
  have X2 : Hid (Two w2 w.heap.size k b s k c t) := X1.out.next hb
  clear hb B1 X1 l a0 a1 a2 b0 b1 b2
  obtain ⟨l, a0, a1, a2, b0, b1, b2⟩ := X2.out
  go_wp2_with fail
  refine (truth_yes 13 k b k c s t _ false Q13.out).mono ?_
  rintro e w3 ⟨rfl, hb⟩
  have B3 : Hid (Below w.heap.size w w3) := B2.out.trans (hb.mono (by omega))
  have X3 : Hid (Two w3 w.heap.size k b s k c t) := X2.out.next hb
  clear hb B2 X2 l a0 a1 a2 b0 b1 b2
  obtain ⟨l, a0, a1, a2, b0, b1, b2⟩ := X3.out
  go_wp2_with fail
  refine (MayR_is _ _ _ _ true h0 h1 hk hs M1.out).mono ?_
  rintro e w4 ⟨rfl, hb⟩
  have B4 : Hid (Below w.heap.size w w4) := B3.out.trans (hb.mono (by omega))
  have X4 : Hid (Two w4 w.heap.size k b s k c t) := X3.out.next hb
  clear hb B3 X3 l a0 a1 a2 b0 b1 b2
  obtain ⟨l, a0, a1, a2, b0, b1, b2⟩ := X4.out
  go_wp2_with fail
  refine (MayR_is _ _ _ _ true g0 g1 hk gs M2.out).mono ?_
  rintro e w5 ⟨rfl, hb⟩
  have B5 : Hid (Below w.heap.size w w5) := B4.out.trans (hb.mono (by omega))
  have X5 : Hid (Two w5 w.heap.size k b s k c t) := X4.out.next hb
  clear hb B4 X4 l a0 a1 a2 b0 b1 b2
  obtain ⟨l, a0, a1, a2, b0, b1, b2⟩ := X5.out
  have l0 : w.heap.size < w5.heap.size := by omega
  go_wp2
  go_loop [11, 74] (fun x i => (i = .int .i64 0 ∧ x = .int .i64 0) ∨ (i = .int .i64 1 ∧ x = .int .i64 1) ∨ (i = .int .i64 2 ∧ x = .int .i64 1) ∨ (i = .int .i64 3 ∧ x = .int .i64 1)) (fun _ i => 3 - (intOf i).toNat)
  case atStart => exact .inl ⟨rfl, rfl⟩
  case round =>
    rcases hrel with ⟨rfl, rfl⟩ | ⟨rfl, rfl⟩ | ⟨rfl, rfl⟩ | ⟨rfl, rfl⟩
    · go_wp2
      go_round
      case rel => exact .inr (.inl ⟨rfl, rfl⟩)
      case measure => simp [intOf]
    · go_wp2
      go_round
      case rel => exact .inr (.inr (.inl ⟨rfl, rfl⟩))
      case measure => simp [intOf]
    · go_wp2
      go_round
      case rel => exact .inr (.inr (.inr ⟨rfl, rfl⟩))
      case measure => simp [intOf]
    · go_wp2_with fail
      refine (truth_yes 10 k b k c s t _ true Q10.out).mono ?_
      rintro e w6 ⟨rfl, hb⟩
      have BB : Hid (Below w.heap.size w w6) := (B5.out.alloc (by omega) _).trans (hb.mono (by simp; omega))
      clear hb
      go_wp2
      go_ret
      exact ⟨rfl, BB.out⟩
set_option maxHeartbeats 4000000 in
theorem walk_oe (h0 : 0 ≤ b) (h1 : b < 18446744073709551616) (hk : 0 ≤ k ∧ k < 256) (hs : s.size ≤ maxLen) (g0 : 0 ≤ c) (g1 : c < 18446744073709551616) (gs : t.size ≤ maxLen) (m : may3 k b s = true) (n : may3 k c t = true)
    (R : ∀ op, (op = 9 ∨ op = 10 ∨ op = 11 ∨ op = 13) → ∀ w, Calls Try.prog 9 #[.int .i64 op, V k b s, V k c t] w fun e w' => e = .returned (.tuple #[V 1 (tb (hB op k b c s t)) E0, .int .i64 0]) ∧ Below w.heap.size w w')
    (eL : cL k b c s t = false) (eE : cE k b c s t = true) (eM : cM k b c s t = false) (d : (k == 18) = false) :
    Calls Try.prog 3 #[V k b s, V k c t] w fun e w' => e = .returned (.bool true) ∧ Below w.heap.size w w' := by
  have q11 := R 11 (by omega)
  have q9 := R 9 (by omega)
  have q13 := R 13 (by omega)
  have q10 := R 10 (by omega)
  have e11 : hB 11 k b c s t = false := by simp [hB, eL]
  have e9 : hB 9 k b c s t = true := by simp [hB, eE]
  have e13 : hB 13 k b c s t = false := by simp [hB, eM]
  have e10 : hB 10 k b c s t = false := by simp [hB, eE]
  rw [e11] at q11
  rw [e9] at q9
  rw [e13] at q13
  rw [e10] at q10
  have Q11 : Hid _ := q11
  have Q9 : Hid _ := q9
  have Q13 : Hid _ := q13
  have Q10 : Hid _ := q10
  have M1 : Hid _ := m
  have M2 : Hid _ := n
  clear R q11 q9 q13 q10 e11 e9 e13 e10 eL eE eM m n
  go_enter Try.func3, Try.ntmps3
  go_wp2_with fail
  refine (truth_yes 11 k b k c s t _ false Q11.out).mono ?_
  rintro e w1 ⟨rfl, hb⟩
  have B1 : Hid (Below w.heap.size w w1) := (((Below.refl _ _).alloc (Nat.le_refl _) _).alloc (by simp) _).trans (hb.mono (by simp; omega))
  have X1 : Hid (Two w1 w.heap.size k b s k c t) := (Two.new w k b s k c t _ _).next hb
  clear hb
  obtain ⟨l, a0, a1, a2, b0, b1, b2⟩ := X1.out
  go_wp2_with fail
  refine (truth_yes 9 k b k c s t _ true Q9.out).mono ?_
  rintro e w2 ⟨rfl, hb⟩
  have B2 : Hid (Below w.heap.size w w2) := B1.out.trans (hb.mono (by omega))
  have X2 : Hid (Two w2 w.heap.size k b s k c t) := X1.out.next hb
  clear hb B1 X1 l a0 a1 a2 b0 b1 b2
  obtain ⟨l, a0, a1, a2, b0, b1, b2⟩ := X2.out
  go_wp2_with fail
  refine (truth_yes 13 k b k c s t _ false Q13.out).mono ?_
  rintro e w3 ⟨rfl, hb⟩
  have B3 : Hid (Below w.heap.size w w3) := B2.out.trans (hb.mono (by omega))
  have X3 : Hid (Two w3 w.heap.size k b s k c t) := X2.out.next hb
  clear hb B2 X2 l a0 a1 a2 b0 b1 b2
  obtain ⟨l, a0, a1, a2, b0, b1, b2⟩ := X3.out
  go_wp2_with fail
  refine (MayR_is _ _ _ _ true h0 h1 hk hs M1.out).mono ?_
  rintro e w4 ⟨rfl, hb⟩
  have B4 : Hid (Below w.heap.size w w4) := B3.out.trans (hb.mono (by omega))
  have X4 : Hid (Two w4 w.heap.size k b s k c t) := X3.out.next hb
  clear hb B3 X3 l a0 a1 a2 b0 b1 b2
  obtain ⟨l, a0, a1, a2, b0, b1, b2⟩ := X4.out
  go_wp2_with fail
  refine (MayR_is _ _ _ _ true g0 g1 hk gs M2.out).mono ?_
  rintro e w5 ⟨rfl, hb⟩
  have B5 : Hid (Below w.heap.size w w5) := B4.out.trans (hb.mono (by omega))
  have X5 : Hid (Two w5 w.heap.size k b s k c t) := X4.out.next hb
  clear hb B4 X4 l a0 a1 a2 b0 b1 b2
  obtain ⟨l, a0, a1, a2, b0, b1, b2⟩ := X5.out
  have l0 : w.heap.size < w5.heap.size := by omega
  go_wp2
  go_loop [11, 74] (fun x i => (i = .int .i64 0 ∧ x = .int .i64 0) ∨ (i = .int .i64 1 ∧ x = .int .i64 0) ∨ (i = .int .i64 2 ∧ x = .int .i64 1) ∨ (i = .int .i64 3 ∧ x = .int .i64 1)) (fun _ i => 3 - (intOf i).toNat)
  case atStart => exact .inl ⟨rfl, rfl⟩
  case round =>
    rcases hrel with ⟨rfl, rfl⟩ | ⟨rfl, rfl⟩ | ⟨rfl, rfl⟩ | ⟨rfl, rfl⟩
    · go_wp2
      go_round
      case rel => exact .inr (.inl ⟨rfl, rfl⟩)
      case measure => simp [intOf]
    · go_wp2
      go_round
      case rel => exact .inr (.inr (.inl ⟨rfl, rfl⟩))
      case measure => simp [intOf]
    · go_wp2
      go_round
      case rel => exact .inr (.inr (.inr ⟨rfl, rfl⟩))
      case measure => simp [intOf]
    · go_wp2_with fail
      refine (truth_yes 10 k b k c s t _ false Q10.out).mono ?_
      rintro e w6 ⟨rfl, hb⟩
      have BB : Hid (Below w.heap.size w w6) := (B5.out.alloc (by omega) _).trans (hb.mono (by simp; omega))
      clear hb
      go_wp2
      go_ret
      exact ⟨rfl, BB.out⟩
set_option maxHeartbeats 4000000 in
theorem walk_fe (h0 : 0 ≤ b) (h1 : b < 18446744073709551616) (hk : 0 ≤ k ∧ k < 256) (hs : s.size ≤ maxLen) (g0 : 0 ≤ c) (g1 : c < 18446744073709551616) (gs : t.size ≤ maxLen) (m : may3 k b s = true) (n : may3 k c t = true)
    (R : ∀ op, (op = 9 ∨ op = 10 ∨ op = 11 ∨ op = 13) → ∀ w, Calls Try.prog 9 #[.int .i64 op, V k b s, V k c t] w fun e w' => e = .returned (.tuple #[V 1 (tb (hB op k b c s t)) E0, .int .i64 0]) ∧ Below w.heap.size w w')
    (eL : cL k b c s t = false) (eE : cE k b c s t = true) (eM : cM k b c s t = false) (d : (k == 18) = true) (f1 : (b == 9221120237041090561) = false) (f2 : (c == 9221120237041090561) = false) :
    Calls Try.prog 3 #[V k b s, V k c t] w fun e w' => e = .returned (.bool true) ∧ Below w.heap.size w w' := by
  have q11 := R 11 (by omega)
  have q9 := R 9 (by omega)
  have q13 := R 13 (by omega)
  have q10 := R 10 (by omega)
  have e11 : hB 11 k b c s t = false := by simp [hB, eL]
  have e9 : hB 9 k b c s t = true := by simp [hB, eE]
  have e13 : hB 13 k b c s t = false := by simp [hB, eM]
  have e10 : hB 10 k b c s t = false := by simp [hB, eE]
  rw [e11] at q11
  rw [e9] at q9
  rw [e13] at q13
  rw [e10] at q10
  have Q11 : Hid _ := q11
  have Q9 : Hid _ := q9
  have Q13 : Hid _ := q13
  have Q10 : Hid _ := q10
  have M1 : Hid _ := m
  have M2 : Hid _ := n
  clear R q11 q9 q13 q10 e11 e9 e13 e10 eL eE eM m n
  go_enter Try.func3, Try.ntmps3
  go_wp2_with fail
  refine (truth_yes 11 k b k c s t _ false Q11.out).mono ?_
  rintro e w1 ⟨rfl, hb⟩
  have B1 : Hid (Below w.heap.size w w1) := (((Below.refl _ _).alloc (Nat.le_refl _) _).alloc (by simp) _).trans (hb.mono (by simp; omega))
  have X1 : Hid (Two w1 w.heap.size k b s k c t) := (Two.new w k b s k c t _ _).next hb
  clear hb
  obtain ⟨l, a0, a1, a2, b0, b1, b2⟩ := X1.out
  go_wp2_with fail
  refine (truth_yes 9 k b k c s t _ true Q9.out).mono ?_
  rintro e w2 ⟨rfl, hb⟩
  have B2 : Hid (Below w.heap.size w w2) := B1.out.trans (hb.mono (by omega))
  have X2 : Hid (Two w2 w.heap.size k b s k c t) := X1.out.next hb
  clear hb B1 X1 l a0 a1 a2 b0 b1 b2
  obtain ⟨l, a0, a1, a2, b0, b1, b2⟩ := X2.out
  go_wp2_with fail
  refine (truth_yes 13 k b k c s t _ false Q13.out).mono ?_
  rintro e w3 ⟨rfl, hb⟩
  have B3 : Hid (Below w.heap.size w w3) := B2.out.trans (hb.mono (by omega))
  have X3 : Hid (Two w3 w.heap.size k b s k c t) := X2.out.next hb
  clear hb B2 X2 l a0 a1 a2 b0 b1 b2
  obtain ⟨l, a0, a1, a2, b0, b1, b2⟩ := X3.out
  go_wp2_with fail
  refine (MayR_is _ _ _ _ true h0 h1 hk hs M1.out).mono ?_
  rintro e w4 ⟨rfl, hb⟩
  have B4 : Hid (Below w.heap.size w w4) := B3.out.trans (hb.mono (by omega))
  have X4 : Hid (Two w4 w.heap.size k b s k c t) := X3.out.next hb
  clear hb B3 X3 l a0 a1 a2 b0 b1 b2
  obtain ⟨l, a0, a1, a2, b0, b1, b2⟩ := X4.out
  go_wp2_with fail
  refine (MayR_is _ _ _ _ true g0 g1 hk gs M2.out).mono ?_
  rintro e w5 ⟨rfl, hb⟩
  have B5 : Hid (Below w.heap.size w w5) := B4.out.trans (hb.mono (by omega))
  have X5 : Hid (Two w5 w.heap.size k b s k c t) := X4.out.next hb
  clear hb B4 X4 l a0 a1 a2 b0 b1 b2
  obtain ⟨l, a0, a1, a2, b0, b1, b2⟩ := X5.out
  have l0 : w.heap.size < w5.heap.size := by omega
  go_wp2
  go_loop [11, 74] (fun x i => (i = .int .i64 0 ∧ x = .int .i64 0) ∨ (i = .int .i64 1 ∧ x = .int .i64 0) ∨ (i = .int .i64 2 ∧ x = .int .i64 1) ∨ (i = .int .i64 3 ∧ x = .int .i64 1)) (fun _ i => 3 - (intOf i).toNat)
  case atStart => exact .inl ⟨rfl, rfl⟩
  case round =>
    rcases hrel with ⟨rfl, rfl⟩ | ⟨rfl, rfl⟩ | ⟨rfl, rfl⟩ | ⟨rfl, rfl⟩
    · go_wp2
      go_round
      case rel => exact .inr (.inl ⟨rfl, rfl⟩)
      case measure => simp [intOf]
    · go_wp2
      go_round
      case rel => exact .inr (.inr (.inl ⟨rfl, rfl⟩))
      case measure => simp [intOf]
    · go_wp2
      go_round
      case rel => exact .inr (.inr (.inr ⟨rfl, rfl⟩))
      case measure => simp [intOf]
    · go_wp2_with fail
      refine (truth_yes 10 k b k c s t _ false Q10.out).mono ?_
      rintro e w6 ⟨rfl, hb⟩
      have BB : Hid (Below w.heap.size w w6) := (B5.out.alloc (by omega) _).trans (hb.mono (by simp; omega))
      clear hb
      go_wp2
      go_ret
      exact ⟨rfl, BB.out⟩
set_option maxHeartbeats 4000000 in
theorem walk_om (h0 : 0 ≤ b) (h1 : b < 18446744073709551616) (hk : 0 ≤ k ∧ k < 256) (hs : s.size ≤ maxLen) (g0 : 0 ≤ c) (g1 : c < 18446744073709551616) (gs : t.size ≤ maxLen) (m : may3 k b s = true) (n : may3 k c t = true)
    (R : ∀ op, (op = 9 ∨ op = 10 ∨ op = 11 ∨ op = 13) → ∀ w, Calls Try.prog 9 #[.int .i64 op, V k b s, V k c t] w fun e w' => e = .returned (.tuple #[V 1 (tb (hB op k b c s t)) E0, .int .i64 0]) ∧ Below w.heap.size w w')
    (eL : cL k b c s t = false) (eE : cE k b c s t = false) (eM : cM k b c s t = true) (d : (k == 18) = false) :
    Calls Try.prog 3 #[V k b s, V k c t] w fun e w' => e = .returned (.bool true) ∧ Below w.heap.size w w' := by
  have q11 := R 11 (by omega)
  have q9 := R 9 (by omega)
  have q13 := R 13 (by omega)
  have q10 := R 10 (by omega)
  have e11 : hB 11 k b c s t = false := by simp [hB, eL]
  have e9 : hB 9 k b c s t = false := by simp [hB, eE]
  have e13 : hB 13 k b c s t = true := by simp [hB, eM]
  have e10 : hB 10 k b c s t = true := by simp [hB, eE]
  rw [e11] at q11
  rw [e9] at q9
  rw [e13] at q13
  rw [e10] at q10
  have Q11 : Hid _ := q11
  have Q9 : Hid _ := q9
  have Q13 : Hid _ := q13
  have Q10 : Hid _ := q10
  have M1 : Hid _ := m
  have M2 : Hid _ := n
  clear R q11 q9 q13 q10 e11 e9 e13 e10 eL eE eM m n
  go_enter Try.func3, Try.ntmps3
  go_wp2_with fail
  refine (truth_yes 11 k b k c s t _ false Q11.out).mono ?_
  rintro e w1 ⟨rfl, hb⟩
  have B1 : Hid (Below w.heap.size w w1) := (((Below.refl _ _).alloc (Nat.le_refl _) _).alloc (by simp) _).trans (hb.mono (by simp; omega))
  have X1 : Hid (Two w1 w.heap.size k b s k c t) := (Two.new w k b s k c t _ _).next hb
  clear hb
  obtain ⟨l, a0, a1, a2, b0, b1, b2⟩ := X1.out
  go_wp2_with fail
  refine (truth_yes 9 k b k c s t _ false Q9.out).mono ?_
  rintro e w2 ⟨rfl, hb⟩
  have B2 : Hid (Below w.heap.size w w2) := B1.out.trans (hb.mono (by omega))
  have X2 : Hid (Two w2 w.heap.size k b s k c t) := X1.out.next hb
  clear hb B1 X1 l a0 a1 a2 b0 b1 b2
  obtain ⟨l, a0, a1, a2, b0, b1, b2⟩ := X2.out
  go_wp2_with fail
  refine (truth_yes 13 k b k c s t _ true Q13.out).mono ?_
  rintro e w3 ⟨rfl, hb⟩
  have B3 : Hid (Below w.heap.size w w3) := B2.out.trans (hb.mono (by omega))
  have X3 : Hid (Two w3 w.heap.size k b s k c t) := X2.out.next hb
  clear hb B2 X2 l a0 a1 a2 b0 b1 b2
  obtain ⟨l, a0, a1, a2, b0, b1, b2⟩ := X3.out
  go_wp2_with fail
  refine (MayR_is _ _ _ _ true h0 h1 hk hs M1.out).mono ?_
  rintro e w4 ⟨rfl, hb⟩
  have B4 : Hid (Below w.heap.size w w4) := B3.out.trans (hb.mono (by omega))
  have X4 : Hid (Two w4 w.heap.size k b s k c t) := X3.out.next hb
  clear hb B3 X3 l a0 a1 a2 b0 b1 b2
  obtain ⟨l, a0, a1, a2, b0, b1, b2⟩ := X4.out
  go_wp2_with fail
  refine (MayR_is _ _ _ _ true g0 g1 hk gs M2.out).mono ?_
  rintro e w5 ⟨rfl, hb⟩
  have B5 : Hid (Below w.heap.size w w5) := B4.out.trans (hb.mono (by omega))
  have X5 : Hid (Two w5 w.heap.size k b s k c t) := X4.out.next hb
  clear hb B4 X4 l a0 a1 a2 b0 b1 b2
  obtain ⟨l, a0, a1, a2, b0, b1, b2⟩ := X5.out
  have l0 : w.heap.size < w5.heap.size := by omega
  go_wp2
  go_loop [11, 74] (fun x i => (i = .int .i64 0 ∧ x = .int .i64 0) ∨ (i = .int .i64 1 ∧ x = .int .i64 0) ∨ (i = .int .i64 2 ∧ x = .int .i64 0) ∨ (i = .int .i64 3 ∧ x = .int .i64 1)) (fun _ i => 3 - (intOf i).toNat)
  case atStart => exact .inl ⟨rfl, rfl⟩
  case round =>
    rcases hrel with ⟨rfl, rfl⟩ | ⟨rfl, rfl⟩ | ⟨rfl, rfl⟩ | ⟨rfl, rfl⟩
    · go_wp2
      go_round
      case rel => exact .inr (.inl ⟨rfl, rfl⟩)
      case measure => simp [intOf]
    · go_wp2
      go_round
      case rel => exact .inr (.inr (.inl ⟨rfl, rfl⟩))
      case measure => simp [intOf]
    · go_wp2
      go_round
      case rel => exact .inr (.inr (.inr ⟨rfl, rfl⟩))
      case measure => simp [intOf]
    · go_wp2_with fail
      refine (truth_yes 10 k b k c s t _ true Q10.out).mono ?_
      rintro e w6 ⟨rfl, hb⟩
      have BB : Hid (Below w.heap.size w w6) := (B5.out.alloc (by omega) _).trans (hb.mono (by simp; omega))
      clear hb
      go_wp2
      go_ret
      exact ⟨rfl, BB.out⟩
set_option maxHeartbeats 4000000 in
theorem walk_fm (h0 : 0 ≤ b) (h1 : b < 18446744073709551616) (hk : 0 ≤ k ∧ k < 256) (hs : s.size ≤ maxLen) (g0 : 0 ≤ c) (g1 : c < 18446744073709551616) (gs : t.size ≤ maxLen) (m : may3 k b s = true) (n : may3 k c t = true)
    (R : ∀ op, (op = 9 ∨ op = 10 ∨ op = 11 ∨ op = 13) → ∀ w, Calls Try.prog 9 #[.int .i64 op, V k b s, V k c t] w fun e w' => e = .returned (.tuple #[V 1 (tb (hB op k b c s t)) E0, .int .i64 0]) ∧ Below w.heap.size w w')
    (eL : cL k b c s t = false) (eE : cE k b c s t = false) (eM : cM k b c s t = true) (d : (k == 18) = true) (f1 : (b == 9221120237041090561) = false) (f2 : (c == 9221120237041090561) = false) :
    Calls Try.prog 3 #[V k b s, V k c t] w fun e w' => e = .returned (.bool true) ∧ Below w.heap.size w w' := by
  have q11 := R 11 (by omega)
  have q9 := R 9 (by omega)
  have q13 := R 13 (by omega)
  have q10 := R 10 (by omega)
  have e11 : hB 11 k b c s t = false := by simp [hB, eL]
  have e9 : hB 9 k b c s t = false := by simp [hB, eE]
  have e13 : hB 13 k b c s t = true := by simp [hB, eM]
  have e10 : hB 10 k b c s t = true := by simp [hB, eE]
  rw [e11] at q11
  rw [e9] at q9
  rw [e13] at q13
  rw [e10] at q10
  have Q11 : Hid _ := q11
  have Q9 : Hid _ := q9
  have Q13 : Hid _ := q13
  have Q10 : Hid _ := q10
  have M1 : Hid _ := m
  have M2 : Hid _ := n
  clear R q11 q9 q13 q10 e11 e9 e13 e10 eL eE eM m n
  go_enter Try.func3, Try.ntmps3
  go_wp2_with fail
  refine (truth_yes 11 k b k c s t _ false Q11.out).mono ?_
  rintro e w1 ⟨rfl, hb⟩
  have B1 : Hid (Below w.heap.size w w1) := (((Below.refl _ _).alloc (Nat.le_refl _) _).alloc (by simp) _).trans (hb.mono (by simp; omega))
  have X1 : Hid (Two w1 w.heap.size k b s k c t) := (Two.new w k b s k c t _ _).next hb
  clear hb
  obtain ⟨l, a0, a1, a2, b0, b1, b2⟩ := X1.out
  go_wp2_with fail
  refine (truth_yes 9 k b k c s t _ false Q9.out).mono ?_
  rintro e w2 ⟨rfl, hb⟩
  have B2 : Hid (Below w.heap.size w w2) := B1.out.trans (hb.mono (by omega))
  have X2 : Hid (Two w2 w.heap.size k b s k c t) := X1.out.next hb
  clear hb B1 X1 l a0 a1 a2 b0 b1 b2
  obtain ⟨l, a0, a1, a2, b0, b1, b2⟩ := X2.out
  go_wp2_with fail
  refine (truth_yes 13 k b k c s t _ true Q13.out).mono ?_
  rintro e w3 ⟨rfl, hb⟩
  have B3 : Hid (Below w.heap.size w w3) := B2.out.trans (hb.mono (by omega))
  have X3 : Hid (Two w3 w.heap.size k b s k c t) := X2.out.next hb
  clear hb B2 X2 l a0 a1 a2 b0 b1 b2
  obtain ⟨l, a0, a1, a2, b0, b1, b2⟩ := X3.out
  go_wp2_with fail
  refine (MayR_is _ _ _ _ true h0 h1 hk hs M1.out).mono ?_
  rintro e w4 ⟨rfl, hb⟩
  have B4 : Hid (Below w.heap.size w w4) := B3.out.trans (hb.mono (by omega))
  have X4 : Hid (Two w4 w.heap.size k b s k c t) := X3.out.next hb
  clear hb B3 X3 l a0 a1 a2 b0 b1 b2
  obtain ⟨l, a0, a1, a2, b0, b1, b2⟩ := X4.out
  go_wp2_with fail
  refine (MayR_is _ _ _ _ true g0 g1 hk gs M2.out).mono ?_
  rintro e w5 ⟨rfl, hb⟩
  have B5 : Hid (Below w.heap.size w w5) := B4.out.trans (hb.mono (by omega))
  have X5 : Hid (Two w5 w.heap.size k b s k c t) := X4.out.next hb
  clear hb B4 X4 l a0 a1 a2 b0 b1 b2
  obtain ⟨l, a0, a1, a2, b0, b1, b2⟩ := X5.out
  have l0 : w.heap.size < w5.heap.size := by omega
  go_wp2
  go_loop [11, 74] (fun x i => (i = .int .i64 0 ∧ x = .int .i64 0) ∨ (i = .int .i64 1 ∧ x = .int .i64 0) ∨ (i = .int .i64 2 ∧ x = .int .i64 0) ∨ (i = .int .i64 3 ∧ x = .int .i64 1)) (fun _ i => 3 - (intOf i).toNat)
  case atStart => exact .inl ⟨rfl, rfl⟩
  case round =>
    rcases hrel with ⟨rfl, rfl⟩ | ⟨rfl, rfl⟩ | ⟨rfl, rfl⟩ | ⟨rfl, rfl⟩
    · go_wp2
      go_round
      case rel => exact .inr (.inl ⟨rfl, rfl⟩)
      case measure => simp [intOf]
    · go_wp2
      go_round
      case rel => exact .inr (.inr (.inl ⟨rfl, rfl⟩))
      case measure => simp [intOf]
    · go_wp2
      go_round
      case rel => exact .inr (.inr (.inr ⟨rfl, rfl⟩))
      case measure => simp [intOf]
    · go_wp2_with fail
      refine (truth_yes 10 k b k c s t _ true Q10.out).mono ?_
      rintro e w6 ⟨rfl, hb⟩
      have BB : Hid (Below w.heap.size w w6) := (B5.out.alloc (by omega) _).trans (hb.mono (by simp; omega))
      clear hb
      go_wp2
      go_ret
      exact ⟨rfl, BB.out⟩
set_option maxHeartbeats 4000000 in
theorem walk_n1 (h0 : 0 ≤ b) (h1 : b < 18446744073709551616) (hk : 0 ≤ k ∧ k < 256) (hs : s.size ≤ maxLen) (g0 : 0 ≤ c) (g1 : c < 18446744073709551616) (gs : t.size ≤ maxLen) (m : may3 k b s = true) (n : may3 k c t = true)
    (R : ∀ op, (op = 9 ∨ op = 10 ∨ op = 11 ∨ op = 13) → ∀ w, Calls Try.prog 9 #[.int .i64 op, V k b s, V k c t] w fun e w' => e = .returned (.tuple #[V 1 (tb (hB op k b c s t)) E0, .int .i64 0]) ∧ Below w.heap.size w w')
    (eL : cL k b c s t = false) (eE : cE k b c s t = false) (eM : cM k b c s t = false) (d : (k == 18) = true) (f1 : (b == 9221120237041090561) = true) :
    Calls Try.prog 3 #[V k b s, V k c t] w fun e w' => e = .returned (.bool true) ∧ Below w.heap.size w w' := by
  have q11 := R 11 (by omega)
  have q9 := R 9 (by omega)
  have q13 := R 13 (by omega)
  have q10 := R 10 (by omega)
  have e11 : hB 11 k b c s t = false := by simp [hB, eL]
  have e9 : hB 9 k b c s t = false := by simp [hB, eE]
  have e13 : hB 13 k b c s t = false := by simp [hB, eM]
  have e10 : hB 10 k b c s t = true := by simp [hB, eE]
  rw [e11] at q11
  rw [e9] at q9
  rw [e13] at q13
  rw [e10] at q10
  have Q11 : Hid _ := q11
  have Q9 : Hid _ := q9
  have Q13 : Hid _ := q13
  have Q10 : Hid _ := q10
  have M1 : Hid _ := m
  have M2 : Hid _ := n
  clear R q11 q9 q13 q10 e11 e9 e13 e10 eL eE eM m n
  go_enter Try.func3, Try.ntmps3
  go_wp2_with fail
  refine (truth_yes 11 k b k c s t _ false Q11.out).mono ?_
  rintro e w1 ⟨rfl, hb⟩
  have B1 : Hid (Below w.heap.size w w1) := (((Below.refl _ _).alloc (Nat.le_refl _) _).alloc (by simp) _).trans (hb.mono (by simp; omega))
  have X1 : Hid (Two w1 w.heap.size k b s k c t) := (Two.new w k b s k c t _ _).next hb
  clear hb
  obtain ⟨l, a0, a1, a2, b0, b1, b2⟩ := X1.out
  go_wp2_with fail
  refine (truth_yes 9 k b k c s t _ false Q9.out).mono ?_
  rintro e w2 ⟨rfl, hb⟩
  have B2 : Hid (Below w.heap.size w w2) := B1.out.trans (hb.mono (by omega))
  have X2 : Hid (Two w2 w.heap.size k b s k c t) := X1.out.next hb
  clear hb B1 X1 l a0 a1 a2 b0 b1 b2
  obtain ⟨l, a0, a1, a2, b0, b1, b2⟩ := X2.out
  go_wp2_with fail
  refine (truth_yes 13 k b k c s t _ false Q13.out).mono ?_
  rintro e w3 ⟨rfl, hb⟩
  have B3 : Hid (Below w.heap.size w w3) := B2.out.trans (hb.mono (by omega))
  have X3 : Hid (Two w3 w.heap.size k b s k c t) := X2.out.next hb
  clear hb B2 X2 l a0 a1 a2 b0 b1 b2
  obtain ⟨l, a0, a1, a2, b0, b1, b2⟩ := X3.out
  go_wp2_with fail
  refine (MayR_is _ _ _ _ true h0 h1 hk hs M1.out).mono ?_
  rintro e w4 ⟨rfl, hb⟩
  have B4 : Hid (Below w.heap.size w w4) := B3.out.trans (hb.mono (by omega))
  have X4 : Hid (Two w4 w.heap.size k b s k c t) := X3.out.next hb
  clear hb B3 X3 l a0 a1 a2 b0 b1 b2
  obtain ⟨l, a0, a1, a2, b0, b1, b2⟩ := X4.out
  go_wp2_with fail
  refine (MayR_is _ _ _ _ true g0 g1 hk gs M2.out).mono ?_
  rintro e w5 ⟨rfl, hb⟩
  have B5 : Hid (Below w.heap.size w w5) := B4.out.trans (hb.mono (by omega))
  have X5 : Hid (Two w5 w.heap.size k b s k c t) := X4.out.next hb
  clear hb B4 X4 l a0 a1 a2 b0 b1 b2
  obtain ⟨l, a0, a1, a2, b0, b1, b2⟩ := X5.out
  have l0 : w.heap.size < w5.heap.size := by omega
  go_wp2
  go_loop [11, 74] (fun x i => (i = .int .i64 0 ∧ x = .int .i64 0) ∨ (i = .int .i64 1 ∧ x = .int .i64 0) ∨ (i = .int .i64 2 ∧ x = .int .i64 0) ∨ (i = .int .i64 3 ∧ x = .int .i64 0)) (fun _ i => 3 - (intOf i).toNat)
  case atStart => exact .inl ⟨rfl, rfl⟩
  case round =>
    rcases hrel with ⟨rfl, rfl⟩ | ⟨rfl, rfl⟩ | ⟨rfl, rfl⟩ | ⟨rfl, rfl⟩
    · go_wp2
      go_round
      case rel => exact .inr (.inl ⟨rfl, rfl⟩)
      case measure => simp [intOf]
    · go_wp2
      go_round
      case rel => exact .inr (.inr (.inl ⟨rfl, rfl⟩))
      case measure => simp [intOf]
    · go_wp2
      go_round
      case rel => exact .inr (.inr (.inr ⟨rfl, rfl⟩))
      case measure => simp [intOf]
    · go_wp2_with fail
      refine (truth_yes 10 k b k c s t _ true Q10.out).mono ?_
      rintro e w6 ⟨rfl, hb⟩
      have BB : Hid (Below w.heap.size w w6) := (B5.out.alloc (by omega) _).trans (hb.mono (by simp; omega))
      clear hb
      go_wp2
      go_ret
      exact ⟨rfl, BB.out⟩
set_option maxHeartbeats 4000000 in
theorem walk_n2 (h0 : 0 ≤ b) (h1 : b < 18446744073709551616) (hk : 0 ≤ k ∧ k < 256) (hs : s.size ≤ maxLen) (g0 : 0 ≤ c) (g1 : c < 18446744073709551616) (gs : t.size ≤ maxLen) (m : may3 k b s = true) (n : may3 k c t = true)
    (R : ∀ op, (op = 9 ∨ op = 10 ∨ op = 11 ∨ op = 13) → ∀ w, Calls Try.prog 9 #[.int .i64 op, V k b s, V k c t] w fun e w' => e = .returned (.tuple #[V 1 (tb (hB op k b c s t)) E0, .int .i64 0]) ∧ Below w.heap.size w w')
    (eL : cL k b c s t = false) (eE : cE k b c s t = false) (eM : cM k b c s t = false) (d : (k == 18) = true) (f1 : (b == 9221120237041090561) = false) (f2 : (c == 9221120237041090561) = true) :
    Calls Try.prog 3 #[V k b s, V k c t] w fun e w' => e = .returned (.bool true) ∧ Below w.heap.size w w' := by
  have q11 := R 11 (by omega)
  have q9 := R 9 (by omega)
  have q13 := R 13 (by omega)
  have q10 := R 10 (by omega)
  have e11 : hB 11 k b c s t = false := by simp [hB, eL]
  have e9 : hB 9 k b c s t = false := by simp [hB, eE]
  have e13 : hB 13 k b c s t = false := by simp [hB, eM]
  have e10 : hB 10 k b c s t = true := by simp [hB, eE]
  rw [e11] at q11
  rw [e9] at q9
  rw [e13] at q13
  rw [e10] at q10
  have Q11 : Hid _ := q11
  have Q9 : Hid _ := q9
  have Q13 : Hid _ := q13
  have Q10 : Hid _ := q10
  have M1 : Hid _ := m
  have M2 : Hid _ := n
  clear R q11 q9 q13 q10 e11 e9 e13 e10 eL eE eM m n
  go_enter Try.func3, Try.ntmps3
  go_wp2_with fail
  refine (truth_yes 11 k b k c s t _ false Q11.out).mono ?_
  rintro e w1 ⟨rfl, hb⟩
  have B1 : Hid (Below w.heap.size w w1) := (((Below.refl _ _).alloc (Nat.le_refl _) _).alloc (by simp) _).trans (hb.mono (by simp; omega))
  have X1 : Hid (Two w1 w.heap.size k b s k c t) := (Two.new w k b s k c t _ _).next hb
  clear hb
  obtain ⟨l, a0, a1, a2, b0, b1, b2⟩ := X1.out
  go_wp2_with fail
  refine (truth_yes 9 k b k c s t _ false Q9.out).mono ?_
  rintro e w2 ⟨rfl, hb⟩
  have B2 : Hid (Below w.heap.size w w2) := B1.out.trans (hb.mono (by omega))
  have X2 : Hid (Two w2 w.heap.size k b s k c t) := X1.out.next hb
  clear hb B1 X1 l a0 a1 a2 b0 b1 b2
  obtain ⟨l, a0, a1, a2, b0, b1, b2⟩ := X2.out
  go_wp2_with fail
  refine (truth_yes 13 k b k c s t _ false Q13.out).mono ?_
  rintro e w3 ⟨rfl, hb⟩
  have B3 : Hid (Below w.heap.size w w3) := B2.out.trans (hb.mono (by omega))
  have X3 : Hid (Two w3 w.heap.size k b s k c t) := X2.out.next hb
  clear hb B2 X2 l a0 a1 a2 b0 b1 b2
  obtain ⟨l, a0, a1, a2, b0, b1, b2⟩ := X3.out
  go_wp2_with fail
  refine (MayR_is _ _ _ _ true h0 h1 hk hs M1.out).mono ?_
  rintro e w4 ⟨rfl, hb⟩
  have B4 : Hid (Below w.heap.size w w4) := B3.out.trans (hb.mono (by omega))
  have X4 : Hid (Two w4 w.heap.size k b s k c t) := X3.out.next hb
  clear hb B3 X3 l a0 a1 a2 b0 b1 b2
  obtain ⟨l, a0, a1, a2, b0, b1, b2⟩ := X4.out
  go_wp2_with fail
  refine (MayR_is _ _ _ _ true g0 g1 hk gs M2.out).mono ?_
  rintro e w5 ⟨rfl, hb⟩
  have B5 : Hid (Below w.heap.size w w5) := B4.out.trans (hb.mono (by omega))
  have X5 : Hid (Two w5 w.heap.size k b s k c t) := X4.out.next hb
  clear hb B4 X4 l a0 a1 a2 b0 b1 b2
  obtain ⟨l, a0, a1, a2, b0, b1, b2⟩ := X5.out
  have l0 : w.heap.size < w5.heap.size := by omega
  go_wp2
  go_loop [11, 74] (fun x i => (i = .int .i64 0 ∧ x = .int .i64 0) ∨ (i = .int .i64 1 ∧ x = .int .i64 0) ∨ (i = .int .i64 2 ∧ x = .int .i64 0) ∨ (i = .int .i64 3 ∧ x = .int .i64 0)) (fun _ i => 3 - (intOf i).toNat)
  case atStart => exact .inl ⟨rfl, rfl⟩
  case round =>
    rcases hrel with ⟨rfl, rfl⟩ | ⟨rfl, rfl⟩ | ⟨rfl, rfl⟩ | ⟨rfl, rfl⟩
    · go_wp2
      go_round
      case rel => exact .inr (.inl ⟨rfl, rfl⟩)
      case measure => simp [intOf]
    · go_wp2
      go_round
      case rel => exact .inr (.inr (.inl ⟨rfl, rfl⟩))
      case measure => simp [intOf]
    · go_wp2
      go_round
      case rel => exact .inr (.inr (.inr ⟨rfl, rfl⟩))
      case measure => simp [intOf]
    · go_wp2_with fail
      refine (truth_yes 10 k b k c s t _ true Q10.out).mono ?_
      rintro e w6 ⟨rfl, hb⟩
      have BB : Hid (Below w.heap.size w w6) := (B5.out.alloc (by omega) _).trans (hb.mono (by simp; omega))
      clear hb
      go_wp2
      go_ret
      exact ⟨rfl, BB.out⟩
end
theorem walk (k b : Int) (s : ByteArray) (k' c : Int) (t : ByteArray) (w : World) (h0 : 0 ≤ b) (h1 : b < 18446744073709551616) (hk : 0 ≤ k ∧ k < 256) (hs : s.size ≤ maxLen) (g0 : 0 ≤ c) (g1 : c < 18446744073709551616) (gk : 0 ≤ k' ∧ k' < 256) (gs : t.size ≤ maxLen) :
    Calls Try.prog 3 #[V k b s, V k' c t] w fun e w' => e = .returned (.bool true) ∧ Below w.heap.size w w' := by
  cases m : may3 k b s
  · exact walk_x k b k' c s t w h0 h1 hk hs g0 g1 gk gs (fun op _ w => Reckon_x1 op k b k' c s t w h0 h1 hk hs m) m
  cases n : may3 k' c t
  · exact walk_y k b k' c s t w h0 h1 hk hs g0 g1 gk gs (fun op _ w => Reckon_x2 op k b k' c s t w h0 h1 hk hs g0 g1 gk gs m n) m n
  by_cases d : k = k'
  · subst d
    have R : ∀ op, (op = 9 ∨ op = 10 ∨ op = 11 ∨ op = 13) → ∀ w, Calls Try.prog 9 #[.int .i64 op, V k b s, V k c t] w fun e w' => e = .returned (.tuple #[V 1 (tb (hB op k b c s t)) E0, .int .i64 0]) ∧ Below w.heap.size w w' :=
      fun op ho w => Reckon_c op k b c s t w ho h0 h1 hk hs g0 g1 gs m n
    by_cases e : k = 18 ∧ (b = 9221120237041090561 ∨ c = 9221120237041090561)
    · obtain ⟨rfl, e⟩ := e
      obtain ⟨eL, eE, eM⟩ := with_nan b c s t e
      by_cases f : b = 9221120237041090561
      · exact walk_n1 18 b c s t w h0 h1 hk hs g0 g1 gs m n R eL eE eM (by simp) (by simpa using f)
      · exact walk_n2 18 b c s t w h0 h1 hk hs g0 g1 gs m n R eL eE eM (by simp) (by simpa using f) (by rcases e with e | e; exact absurd e f; simpa using e)
    · have J := just_one k b c s t m n e
      by_cases o : k = 18
      · have f1 : (b == 9221120237041090561) = false := by
          by_cases f : b = 9221120237041090561
          · exact absurd ⟨o, .inl f⟩ e
          · simpa using f
        have f2 : (c == 9221120237041090561) = false := by
          by_cases f : c = 9221120237041090561
          · exact absurd ⟨o, .inr f⟩ e
          · simpa using f
        rcases J with ⟨eL, eE, eM⟩ | ⟨eL, eE, eM⟩ | ⟨eL, eE, eM⟩
        · exact walk_fl k b c s t w h0 h1 hk hs g0 g1 gs m n R eL eE eM (by simpa using o) f1 f2
        · exact walk_fe k b c s t w h0 h1 hk hs g0 g1 gs m n R eL eE eM (by simpa using o) f1 f2
        · exact walk_fm k b c s t w h0 h1 hk hs g0 g1 gs m n R eL eE eM (by simpa using o) f1 f2
      · rcases J with ⟨eL, eE, eM⟩ | ⟨eL, eE, eM⟩ | ⟨eL, eE, eM⟩
        · exact walk_ol k b c s t w h0 h1 hk hs g0 g1 gs m n R eL eE eM (by simpa using o)
        · exact walk_oe k b c s t w h0 h1 hk hs g0 g1 gs m n R eL eE eM (by simpa using o)
        · exact walk_om k b c s t w h0 h1 hk hs g0 g1 gs m n R eL eE eM (by simpa using o)
  · exact walk_z k b k' c s t w h0 h1 hk hs g0 g1 gk gs (fun op ho w => Reckon_k op k b k' c s t w ho h0 h1 hk hs g0 g1 gk gs m n (by simpa using d)) m n (by simpa using d)
set_option maxRecDepth 100000 in
theorem lifted (os : Os) (started : os.Started) (H : Type) (enc : TypeId × Value → H) :
    ReturnsInHanded {} Try.checked os 3 .any (Rows.valueOrderSpec.pre6 enc Try.prog Try.f3 Rows.valueOrderRow.domain false) (Rows.valueOrderSpec.post enc Try.prog Try.f3 false true false false) := by
  refine returnsInHanded_of_change (C := Try.checked) own started (by kernel_rfl) Try.func3
    (ChangeSpec.witness6 (enc := enc) (C := Try.checked) false ⟨#[], #[V 0 0 ⟨#[]⟩, V 0 0 ⟨#[]⟩], []⟩ 8 (by kernel_rfl) (by kernel_rfl) (by kernel_rfl) (by kernel_rfl)) ?_
  intro W base args ds gs before hval0 hW hcnd _
  have hval : ∀ (j : Nat) t v, Try.f3.params[j]? = some t → args[j]? = some v → Value.okWide Try.prog W .any base t v := hval0
  have hW' := hW
  obtain ⟨p, q, hA0, hV, rfl, hfz, hnd⟩ := hW
  have hA : DataW.TrodAll enc Try.prog W 0 (fun _ => true) true Try.f3.params.toList args.toList ds p := hA0
  rw [Try.params3] at hA hval
  obtain ⟨v0, vs0, d0, ds0, p0, q0, hargs, rfl, rfl, h0, r0⟩ := trodAll_cons hA
  obtain ⟨v1, vs1, d1, ds1, p1, q1, rfl, rfl, rfl, h1, r1⟩ := trodAll_cons r0
  obtain ⟨rfl, rfl, rfl⟩ := trodAll_nil r1
  obtain rfl : args = #[v0, v1] := by cases args; simp_all
  obtain ⟨rfl, rfl⟩ := trodVars_none hV
  have k0 := h0
  have lt0 : ∀ x ∈ p0, x.block < W.heap.size := by obtain ⟨m, hm⟩ := k0; exact DataW.trod_lt m _ _ _ hm
  obtain ⟨ka, ba, sa, rfl, hka, ba0, ba1, hsa⟩ := open_V (hval 0 25 v0 rfl rfl) h0
  have k1 := h1
  have lt1 : ∀ x ∈ p1, x.block < W.heap.size := by obtain ⟨m, hm⟩ := k1; exact DataW.trod_lt m _ _ _ hm
  obtain ⟨kb, bb, sb, rfl, hkb, bb0, bb1, hsb⟩ := open_V (hval 1 25 v1 rfl rfl) h1
  clear hA0 hval0
  refine (walk ka ba sa kb bb sb W ba0 ba1 hka hsa bb0 bb1 hkb hsb).mono fun e W' ⟨he, bel⟩ => ?_
  subst he
  exact ⟨_, rfl, _, _, _, [], _, [], hW', trodAll_mk1 (shut_bool Try.underlying4 _), (trodAll_cons_mk (Below.trod laidOut (by kernel_rfl) (of_decide_eq_true (by kernel_rfl)) k0 bel lt0) (trodAll_cons_mk (Below.trod laidOut (by kernel_rfl) (of_decide_eq_true (by kernel_rfl)) k1 bel lt1) trodAll_mk0)), rfl, bel.frame _, fun h => by cases h⟩
end Go.Proofs.Ytdnpeghdfhjmaab.LawOrder
namespace Go.Proofs.Ytdnpeghdfhjmaab
/-- THE STATEMENT. -/
theorem valueOrder_proved : Rows.ValueOrderSaid :=
  OpenClaim.holds_of_wide 3 Try.f3 rfl rfl rfl rfl rfl rfl rfl ⟨rfl, rfl, rfl, rfl, rfl⟩ rfl rfl rfl rfl rfl (by kernel_rfl) Try.func3 (by kernel_rfl)
    (of_decide_eq_true (by kernel_rfl)) (by unfold Func.isWrapper; first | (rw [if_pos (by decide +kernel)]; kernel_rfl) | (rw [if_neg (by decide +kernel)]; exact ⟨rfl, rfl⟩))
    (fun os started H enc _ => LawOrder.lifted os started H enc)
end Go.Proofs.Ytdnpeghdfhjmaab
