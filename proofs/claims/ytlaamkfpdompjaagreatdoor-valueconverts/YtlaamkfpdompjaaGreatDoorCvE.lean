/- What value's conversions of floats, texts and times answer: a value that may be, or a fault; no statement of the seat is proved here. -/
import Derived.Test.YtlaamkfpdompjaaGreatDoorCvD
namespace Go.Proofs.YtlaamkfpdompjaaGreatDoor
set_option linter.unusedVariables false
open Go.RowKit
/-- The box of a result, behind a call. -/
theorem step_zeroC {w w1 : World} {u : TypeId} (hb : Below (w.alloc (.cells #[.int .u8 0, .int .u64 0, .string ⟨#[]⟩] u)).heap.size (w.alloc (.cells #[.int .u8 0, .int .u64 0, .string ⟨#[]⟩] u)) w1) :
    w.heap.size < w1.heap.size ∧ w1.cell? ⟨w.heap.size, 0, none⟩ = some (.int .u8 0) ∧ w1.cell? ⟨w.heap.size, 1, none⟩ = some (.int .u64 0) ∧ w1.cell? ⟨w.heap.size, 2, none⟩ = some (.string ⟨#[]⟩) ∧
    (∀ o, w1.frozen? ⟨w.heap.size, o, none⟩ = false) ∧ Below w.heap.size w w1 := by
  have hs := hb.size
  simp only [World.size_alloc] at hs
  refine ⟨by omega, ?_, ?_, ?_, ?_, ((Below.refl _ _).alloc (Nat.le_refl _) _).trans (hb.mono (by simp))⟩
  · rw [hb.cell (p := ⟨w.heap.size, 0, none⟩) (by simp)]; simp
  · rw [hb.cell (p := ⟨w.heap.size, 1, none⟩) (by simp)]; simp
  · rw [hb.cell (p := ⟨w.heap.size, 2, none⟩) (by simp)]; simp
  · intro o
    rw [hb.frozen (p := ⟨w.heap.size, o, none⟩) (by simp)]; simp
theorem step1C {W w2 : World} {h : Nat} (hb : Below W.heap.size W w2) (z0 : h < W.heap.size) :
    h < w2.heap.size ∧ (∀ o, w2.cell? ⟨h, o, none⟩ = W.cell? ⟨h, o, none⟩) ∧ (∀ o, w2.frozen? ⟨h, o, none⟩ = W.frozen? ⟨h, o, none⟩) :=
  ⟨Nat.lt_of_lt_of_le z0 hb.size, fun o => hb.cell (p := ⟨h, o, none⟩) z0, fun o => hb.frozen (p := ⟨h, o, none⟩) z0⟩
theorem boxC {w w2 w4 : World} {o : Obj} (z0 : w.heap.size < w2.heap.size) (q0 : w2.cell? ⟨w.heap.size, 0, none⟩ = some (.int .u8 0)) (q1 : w2.cell? ⟨w.heap.size, 1, none⟩ = some (.int .u64 0)) (q2 : w2.cell? ⟨w.heap.size, 2, none⟩ = some (.string ⟨#[]⟩)) (q6 : ∀ o, w2.frozen? ⟨w.heap.size, o, none⟩ = false) (HB : Below w.heap.size w w2)
    (hb : Below (w2.alloc o).heap.size (w2.alloc o) w4) : w.heap.size < w4.heap.size ∧ w4.cell? ⟨w.heap.size, 0, none⟩ = some (.int .u8 0) ∧ w4.cell? ⟨w.heap.size, 1, none⟩ = some (.int .u64 0) ∧ w4.cell? ⟨w.heap.size, 2, none⟩ = some (.string ⟨#[]⟩) ∧ (∀ o, w4.frozen? ⟨w.heap.size, o, none⟩ = false) ∧ Below w.heap.size w w4 := by
  have B := (Below.refl w2.heap.size w2).alloc (Nat.le_refl _) o
  have C : Below w2.heap.size w2 w4 := B.trans (hb.mono (by simp))
  refine ⟨Nat.lt_of_lt_of_le z0 C.size, ?_, ?_, ?_, ?_, HB.trans (C.mono (Nat.le_of_lt z0))⟩
  · rw [C.cell (p := ⟨w.heap.size, 0, none⟩) z0, q0]
  · rw [C.cell (p := ⟨w.heap.size, 1, none⟩) z0, q1]
  · rw [C.cell (p := ⟨w.heap.size, 2, none⟩) z0, q2]
  · intro o'
    rw [C.frozen (p := ⟨w.heap.size, o', none⟩) z0, q6]
theorem fitted_cv (k n : Int) (w : World) (hk : 0 ≤ k ∧ k < 256) (g0 : -18446744073709551616 < n) (g1 : n < 18446744073709551616) :
    Calls Tryz.prog 28 #[.int .u8 k, NB n, .int .i64 7] w fun e w' => CvOk k e ∧ Below w.heap.size w w' := by
  refine (fitted_of k n 7 w hk ⟨g0, g1⟩).mono ?_
  rintro e w' ⟨rfl, hb⟩
  exact ⟨cv_fit k n 7 hk (by omega), hb⟩
section
variable (k kv b : Int) (s : ByteArray) (x : Nat) (w : World)
set_option maxRecDepth 100000 in
set_option maxHeartbeats 1000000 in
theorem fromFloat_1 : Calls Tryz.prog 9 #[.int .u8 1, .float .f64 x] w fun e w' => CvOk 1 e ∧ Below w.heap.size w w' := by
  cases c : fnan x
  · have C : Hid (fnan x = false) := c
    clear c
    go_enter Tryz.func9, Tryz.ntmps9
    go_wp2_with (first
      | (go_at_call 23; refine (IsNaN_of _ _).mono ?_; rintro e w' ⟨rfl, rfl⟩; rw [C.out])
      | (go_at_call 24; refine (Bool_of _ _).mono ?_; rintro e w1 ⟨rfl, hb⟩; obtain ⟨z0, q0, q1, q2, q6, HB⟩ := step_zeroC hb; clear hb))
    generalize (FloatKind.f64.format.order x 0 != some Ordering.eq) = p
    exact bodyPost_ret (v := .tuple #[V 1 (tb p) E0, .int .i64 0]) (by simp [results, Tryz.results9, go_sem, q0, q1, q2]) rfl ⟨cv_bool _, ((HB.setCell (by simp) _).setCell (by simp) _).setCell (by simp) _⟩
  · have C : Hid (fnan x = true) := c
    clear c
    go_enter Tryz.func9, Tryz.ntmps9
    go_wp2_with (go_at_call 23; refine (IsNaN_of _ _).mono ?_; rintro e w' ⟨rfl, rfl⟩; rw [C.out])
    exact bodyPost_ret (v := .tuple #[V 0 0 E0, .int .i64 7]) (by simp [results, Tryz.results9, go_sem]) rfl ⟨cv_fault 1 7 (by omega), (Below.refl _ _).alloc (Nat.le_refl _) _⟩
set_option maxRecDepth 100000 in
set_option maxHeartbeats 1000000 in
theorem fromFloat_8 (hk : 0 ≤ k ∧ k < 256) (d : 14 ≤ k) : Calls Tryz.prog 9 #[.int .u8 k, .float .f64 x] w fun e w' => CvOk k e ∧ Below w.heap.size w w' := by
  have k1 : (k == 1) = false := by simp; omega
  go_enter Tryz.func9, Tryz.ntmps9
  go_wp2_with (first
      | (go_at_call 25; refine (isInteger_is k _ false hk (by symm; simp; omega)).mono ?_; rintro e w1 ⟨rfl, rfl⟩)
      | (go_at_call 26; refine (isRow_is k _ false hk (by symm; simp; omega)).mono ?_; rintro e w1 ⟨rfl, rfl⟩))
  exact bodyPost_ret (v := .tuple #[V 0 0 E0, .int .i64 8]) (by simp [results, Tryz.results9, go_sem]) rfl ⟨cv_fault k 8 (by omega), (Below.refl _ _).alloc (Nat.le_refl _) _⟩
set_option maxRecDepth 100000 in
set_option maxHeartbeats 1000000 in
theorem fromFloat_n (hk : 0 ≤ k ∧ k < 256) (d : 2 ≤ k ∧ k ≤ 13) (h : calm x) : Calls Tryz.prog 9 #[.int .u8 k, .float .f64 x] w fun e w' => CvOk k e ∧ Below w.heap.size w w' := by
  have k1 : (k == 1) = false := by simp; omega
  have R : Hid _ := rounded_of x h
  clear h
  by_cases d9 : k ≤ 9
  · go_enter Tryz.func9, Tryz.ntmps9
    go_wp2_with (first
      | (go_at_call 25; refine (isInteger_is k _ true hk (by symm; simp; omega)).mono ?_; rintro e w1 ⟨rfl, rfl⟩)
      | (go_at_call 27; refine (R.out _).mono ?_; rintro e w2 ⟨⟨n, p, rfl, n0, n1⟩, hb⟩; obtain ⟨z0, q0, q1, q2, q6, HB⟩ := step_zeroC hb; clear hb; cases p)
      | (go_at_call 28; refine (fitted_cv k n _ hk n0 n1).mono ?_; rintro e w4 ⟨⟨k', b', s', f, rfl, hb', hk', hs', hf⟩, hb4⟩; obtain ⟨y0, p0, p1, p2, p6, PB⟩ := boxC z0 q0 q1 q2 q6 HB hb4; clear hb4))
    · exact bodyPost_ret (v := .tuple #[V 0 0 E0, .int .i64 7]) (by simp [results, Tryz.results9, go_sem, q0, q1, q2, z0]) rfl ⟨cv_fault k 7 (by omega), by go_grown⟩
    · exact bodyPost_ret (v := .tuple #[V k' b' s', .int .i64 f]) (by simp [results, Tryz.results9, go_sem, p0, p1, p2]) rfl ⟨⟨k', b', s', f, rfl, hb', hk', hs', hf⟩, ((PB.setCell (by simp) _).setCell (by simp) _).setCell (by simp) _⟩
  · go_enter Tryz.func9, Tryz.ntmps9
    go_wp2_with (first
      | (go_at_call 25; refine (isInteger_is k _ false hk (by symm; simp; omega)).mono ?_; rintro e w1 ⟨rfl, rfl⟩)
      | (go_at_call 26; refine (isRow_is k _ true hk (by symm; simp; omega)).mono ?_; rintro e w1 ⟨rfl, rfl⟩)
      | (go_at_call 27; refine (R.out _).mono ?_; rintro e w2 ⟨⟨n, p, rfl, n0, n1⟩, hb⟩; obtain ⟨z0, q0, q1, q2, q6, HB⟩ := step_zeroC hb; clear hb; cases p)
      | (go_at_call 28; refine (fitted_cv k n _ hk n0 n1).mono ?_; rintro e w4 ⟨⟨k', b', s', f, rfl, hb', hk', hs', hf⟩, hb4⟩; obtain ⟨y0, p0, p1, p2, p6, PB⟩ := boxC z0 q0 q1 q2 q6 HB hb4; clear hb4))
    · exact bodyPost_ret (v := .tuple #[V 0 0 E0, .int .i64 7]) (by simp [results, Tryz.results9, go_sem, q0, q1, q2, z0]) rfl ⟨cv_fault k 7 (by omega), by go_grown⟩
    · exact bodyPost_ret (v := .tuple #[V k' b' s', .int .i64 f]) (by simp [results, Tryz.results9, go_sem, p0, p1, p2]) rfl ⟨⟨k', b', s', f, rfl, hb', hk', hs', hf⟩, ((PB.setCell (by simp) _).setCell (by simp) _).setCell (by simp) _⟩
set_option maxRecDepth 100000 in
set_option maxHeartbeats 1000000 in
theorem fromText_n (hk : 0 ≤ k ∧ k < 256) (d : 2 ≤ k) (hs : s.size ≤ maxLen) : Calls Tryz.prog 11 #[.int .u8 k, .string s] w fun e w' => CvOk k e ∧ Below w.heap.size w w' := by
  have k1 : (k == 1) = false := by simp; omega
  have R : Hid (∀ w, Calls Tryz.prog 29 #[.string s] w fun e w' => RdN e ∧ Below w.heap.size w w') := fun w => readNumber_of s w hs
  by_cases d9 : k ≤ 9
  · go_enter Tryz.func11, Tryz.ntmps11
    go_wp2_with (first
      | (go_at_call 25; refine (isInteger_is k _ true hk (by symm; simp; omega)).mono ?_; rintro e w1 ⟨rfl, rfl⟩)
      | (go_at_call 29; refine (R.out _).mono ?_; rintro e w2 ⟨⟨n, p, rfl, n0, n1⟩, hb⟩; obtain ⟨z0, q0, q1, q2, q6, HB⟩ := step_zeroC hb; clear hb; cases p)
      | (go_at_call 28; refine (fitted_cv k n _ hk n0 n1).mono ?_; rintro e w4 ⟨⟨k', b', s', f, rfl, hb', hk', hs', hf⟩, hb4⟩; obtain ⟨y0, p0, p1, p2, p6, PB⟩ := boxC z0 q0 q1 q2 q6 HB hb4; clear hb4))
    · exact bodyPost_ret (v := .tuple #[V 0 0 E0, .int .i64 7]) (by simp [results, Tryz.results11, go_sem, q0, q1, q2, z0]) rfl ⟨cv_fault k 7 (by omega), by go_grown⟩
    · exact bodyPost_ret (v := .tuple #[V k' b' s', .int .i64 f]) (by simp [results, Tryz.results11, go_sem, p0, p1, p2]) rfl ⟨⟨k', b', s', f, rfl, hb', hk', hs', hf⟩, ((PB.setCell (by simp) _).setCell (by simp) _).setCell (by simp) _⟩
  · go_enter Tryz.func11, Tryz.ntmps11
    go_wp2_with (go_at_call 25; refine (isInteger_is k _ false hk (by symm; simp; omega)).mono ?_; rintro e w1 ⟨rfl, rfl⟩)
    exact bodyPost_ret (v := .tuple #[V 0 0 E0, .int .i64 8]) (by simp [results, Tryz.results11, go_sem]) rfl ⟨cv_fault k 8 (by omega), (Below.refl _ _).alloc (Nat.le_refl _) _⟩
set_option maxRecDepth 100000 in
set_option maxHeartbeats 1000000 in
theorem fromText_1 : Calls Tryz.prog 11 #[.int .u8 1, .string s] w fun e w' => CvOk 1 e ∧ Below w.heap.size w w' := by
  cases c : (s.toList == [84, 82, 85, 69])
  · cases c2 : (s.toList == [70, 65, 76, 83, 69])
    · go_enter Tryz.func11, Tryz.ntmps11
      go_wp2
      exact bodyPost_ret (v := .tuple #[V 0 0 E0, .int .i64 7]) (by simp [results, Tryz.results11, go_sem]) rfl ⟨cv_fault 1 7 (by omega), (Below.refl _ _).alloc (Nat.le_refl _) _⟩
    · go_enter Tryz.func11, Tryz.ntmps11
      go_wp2_with (go_at_call 24; refine (Bool_of _ _).mono ?_; rintro e w1 ⟨rfl, hb⟩; obtain ⟨z0, q0, q1, q2, q6, HB⟩ := step_zeroC hb; clear hb)
      exact bodyPost_ret (v := .tuple #[V 1 (tb false) E0, .int .i64 0]) (by simp [results, Tryz.results11, go_sem, q0, q1, q2]) rfl ⟨cv_bool _, ((HB.setCell (by simp) _).setCell (by simp) _).setCell (by simp) _⟩
  · go_enter Tryz.func11, Tryz.ntmps11
    go_wp2_with (go_at_call 24; refine (Bool_of _ _).mono ?_; rintro e w1 ⟨rfl, hb⟩; obtain ⟨z0, q0, q1, q2, q6, HB⟩ := step_zeroC hb; clear hb)
    exact bodyPost_ret (v := .tuple #[V 1 (tb true) E0, .int .i64 0]) (by simp [results, Tryz.results11, go_sem, q0, q1, q2]) rfl ⟨cv_bool _, ((HB.setCell (by simp) _).setCell (by simp) _).setCell (by simp) _⟩
theorem day_may (b : Int) (h0 : 0 ≤ b) (h1 : b < 7258118400000000000) : may3 15 (b - b % 86400000000000) E0 = true ∧ may3 16 (b % 86400000000000) E0 = true := by
  constructor
  · simp [may3, mayW]
    omega
  · simp [may3, mayW]
    omega
set_option maxRecDepth 100000 in
set_option maxHeartbeats 1000000 in
theorem fromTime_5 (h0 : 0 ≤ b) (h1 : b < 18446744073709551616) : Calls Tryz.prog 13 #[.int .u8 5, V kv b s] w fun e w' => CvOk 5 e ∧ Below w.heap.size w w' := by
  have g : Hid (-18446744073709551616 < num kv b ∧ num kv b < 18446744073709551616) := by have := num_bd kv b h0 h1; show _ ∧ _; omega
  go_enter Tryz.func13, Tryz.ntmps13
  go_wp2_with (first
    | (go_at_call 30; refine (numberOf_of _ _ _ _ h0 h1).mono ?_; rintro e w2 ⟨rfl, hb⟩; obtain ⟨z0, z1, q0, q1, q2, q3, q4, q5, q6, HB⟩ := step_box hb; clear hb)
    | (go_at_call 28; refine (fitted_cv 5 _ _ (by omega) g.out.1 g.out.2).mono ?_; rintro e w4 ⟨⟨k', b', s', f, rfl, hb', hk', hs', hf⟩, hb4⟩; obtain ⟨u0, u1, l0, l1, l2⟩ := step2 hb4 z0 z1))
  exact bodyPost_ret (v := .tuple #[V k' b' s', .int .i64 f]) (by simp [results, Tryz.results13, go_sem, l1, q3, q4, q5]) rfl ⟨⟨k', b', s', f, rfl, hb', hk', hs', hf⟩, (((HB.trans (hb4.mono (Nat.le_of_lt z0))).setCell (by simp) _).setCell (by simp) _).setCell (by simp) _⟩
set_option maxRecDepth 100000 in
set_option maxHeartbeats 1000000 in
theorem fromTime_d (h0 : 0 ≤ b) (h1 : b < 7258118400000000000) : Calls Tryz.prog 13 #[.int .u8 15, V 17 b s] w fun e w' => e = .returned (.tuple #[V 15 (b - b % 86400000000000) E0, .int .i64 0]) ∧ Below w.heap.size w w' := by
  go_enter Tryz.func13, Tryz.ntmps13
  go_wp2
  exact bodyPost_ret (v := .tuple #[V 15 (b - b % 86400000000000) E0, .int .i64 0]) (by simp [results, Tryz.results13, go_sem]) rfl ⟨rfl, ((Below.refl _ _).alloc (Nat.le_refl _) _).alloc (by simp) _⟩
set_option maxRecDepth 100000 in
set_option maxHeartbeats 1000000 in
theorem fromTime_t (h0 : 0 ≤ b) (h1 : b < 7258118400000000000) : Calls Tryz.prog 13 #[.int .u8 16, V 17 b s] w fun e w' => e = .returned (.tuple #[V 16 (b % 86400000000000) E0, .int .i64 0]) ∧ Below w.heap.size w w' := by
  go_enter Tryz.func13, Tryz.ntmps13
  go_wp2
  exact bodyPost_ret (v := .tuple #[V 16 (b % 86400000000000) E0, .int .i64 0]) (by simp [results, Tryz.results13, go_sem]) rfl ⟨rfl, ((Below.refl _ _).alloc (Nat.le_refl _) _).alloc (by simp) _⟩
set_option maxRecDepth 100000 in
set_option maxHeartbeats 1000000 in
theorem fromTime_8 (d : ¬ k = 5) (d2 : ¬ (k = 15 ∧ kv = 17)) (d3 : ¬ (k = 16 ∧ kv = 17)) : Calls Tryz.prog 13 #[.int .u8 k, V kv b s] w fun e w' => CvOk k e ∧ Below w.heap.size w w' := by
  have k5 : (k == 5) = false := by simpa using d
  have X : Hid _ := d2
  have Y : Hid _ := d3
  clear d d2 d3
  by_cases v17 : kv = 17
  · subst v17
    have k15 : (k == 15) = false := by rw [beq_eq_false_iff_ne]; exact fun e => X.out ⟨e, rfl⟩
    have k16 : (k == 16) = false := by rw [beq_eq_false_iff_ne]; exact fun e => Y.out ⟨e, rfl⟩
    go_enter Tryz.func13, Tryz.ntmps13
    go_wp2
    exact bodyPost_ret (v := .tuple #[V 0 0 E0, .int .i64 8]) (by simp [results, Tryz.results13, go_sem]) rfl ⟨cv_fault k 8 (by omega), ((Below.refl _ _).alloc (Nat.le_refl _) _).alloc (by simp) _⟩
  · have f17 : (kv == 17) = false := by simpa using v17
    by_cases a : k = 15
    · subst a
      go_enter Tryz.func13, Tryz.ntmps13
      go_wp2
      exact bodyPost_ret (v := .tuple #[V 0 0 E0, .int .i64 8]) (by simp [results, Tryz.results13, go_sem]) rfl ⟨cv_fault 15 8 (by omega), ((Below.refl _ _).alloc (Nat.le_refl _) _).alloc (by simp) _⟩
    · by_cases a' : k = 16
      · subst a'
        go_enter Tryz.func13, Tryz.ntmps13
        go_wp2
        exact bodyPost_ret (v := .tuple #[V 0 0 E0, .int .i64 8]) (by simp [results, Tryz.results13, go_sem]) rfl ⟨cv_fault 16 8 (by omega), ((Below.refl _ _).alloc (Nat.le_refl _) _).alloc (by simp) _⟩
      · have k15 : (k == 15) = false := by simpa using a
        have k16 : (k == 16) = false := by simpa using a'
        go_enter Tryz.func13, Tryz.ntmps13
        go_wp2
        exact bodyPost_ret (v := .tuple #[V 0 0 E0, .int .i64 8]) (by simp [results, Tryz.results13, go_sem]) rfl ⟨cv_fault k 8 (by omega), ((Below.refl _ _).alloc (Nat.le_refl _) _).alloc (by simp) _⟩
end
end Go.Proofs.YtlaamkfpdompjaaGreatDoor
