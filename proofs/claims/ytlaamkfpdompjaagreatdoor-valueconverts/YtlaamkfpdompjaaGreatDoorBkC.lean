/- value.Convert, exactly, from a number to another kind of number, to a text and back; no statement of the seat is proved here. -/
import Derived.Test.YtlaamkfpdompjaaGreatDoorBkB
namespace Go.Proofs.YtlaamkfpdompjaaGreatDoor
set_option linter.unusedVariables false
open Go.RowKit
section
variable (k kv b : Int) (s : ByteArray) (w : World)
set_option maxRecDepth 100000 in
set_option maxHeartbeats 2000000 in
theorem Print_is (hP : Pow w) (h0 : 0 ≤ b) (h1 : b < 18446744073709551616) (hk : 2 ≤ k ∧ k ≤ 9) (hs : s.size ≤ maxLen) (m : may3 k b s = true) :
    Calls Tryz.prog 34 #[V k b s] w fun e w' => e = .returned (.string (numS (num k b))) ∧ Below w.heap.size w w' := by
  have M : Hid (∀ w, Calls Tryz.prog 7 #[V k b s] w fun e w' => e = .returned (.bool true) ∧ Below w.heap.size w w') := fun w => by
    have := May_of k b s w h0 h1 (by omega) hs
    rwa [m] at this
  clear m
  have f1 : (k == 1) = false := by simp; omega
  have f19 : (k == 19) = false := by simp; omega
  have f18 : (k == 18) = false := by simp; omega
  have HP : Hid (Pow w) := hP
  have N1 : Hid (-18446744073709551616 < num k b ∧ num k b < 18446744073709551616) := by
    show _ ∧ _
    have := num_bd k b h0 h1
    omega
  clear hP
  go_enter Tryz.func34, Tryz.ntmps34
  go_wp2_with fail
  refine (M.out _).mono ?_
  rintro e w1 ⟨rfl, hb⟩
  have B : Hid (Below w.heap.size w w1) := ((Below.refl _ _).alloc (Nat.le_refl _) _).trans (hb.mono (by simp))
  have A0 : Hid _ := (Lies.new w k b s _).next hb
  obtain ⟨l0, c00, c01, c02⟩ := A0.out
  clear hb
  go_wp2_with fail
  refine (isRow_is k _ false (by omega) (by symm; simp; omega)).mono ?_
  rintro e w2 ⟨rfl, rfl⟩
  go_wp2_with fail
  refine (numberOf_of k b s _ h0 h1).mono ?_
  rintro e w3 ⟨rfl, hb⟩
  have B3 : Hid (Below w.heap.size w w3) := B.out.trans (hb.mono B.out.size)
  have P3 : Hid (Pow w3) := pow_below HP.out B3.out
  clear hb
  go_wp2_with fail
  refine (printNumber_is (num k b) _ P3.out N1.out.1 N1.out.2).mono ?_
  rintro e w4 ⟨rfl, hb⟩
  go_wp2
  go_ret
  exact ⟨rfl, B3.out.trans (hb.mono B3.out.size)⟩
set_option maxRecDepth 100000 in
set_option maxHeartbeats 1000000 in
theorem fp_text_is (h0 : 0 ≤ b) (h1 : b < 18446744073709551616) (hs : s.size ≤ maxLen) (d : 2 ≤ kv ∧ kv ≤ 9) (m : may3 kv b s = true) (hP : Pow w) : Calls Tryz.prog 14 #[.int .u8 19, V kv b s] w fun e w' => e = .returned (.tuple #[V 19 0 (numS (num kv b)), .int .i64 0]) ∧ Below w.heap.size w w' := by
  have P : Hid (∀ w, Pow w → Calls Tryz.prog 34 #[V kv b s] w fun e w' => e = .returned (.string (numS (num kv b))) ∧ Below w.heap.size w w') := fun w h => Print_is kv b s w h h0 h1 d hs m
  have ht : (numS (num kv b)).size ≤ 21 := numS_size _ (by have := num_bd kv b h0 h1; omega) (by have := num_bd kv b h0 h1; omega)
  have HP : Hid _ := pow_below hP (((Below.refl w.heap.size w).alloc (Nat.le_refl _) (.cells #[.int .u8 kv, .int .u64 b, .string s] 25)).alloc (by simp) (.cells #[.int .u8 0, .int .u64 0, .string ⟨#[]⟩] 25))
  clear m hP
  generalize numS (num kv b) = t at *
  go_enter Tryz.func14, Tryz.ntmps14
  go_wp2_with (first
    | (go_at_call 25; refine (isInteger_is 19 _ false (by omega) (by simp)).mono ?_; rintro e w1 ⟨rfl, rfl⟩)
    | (go_at_call 26; refine (isRow_is 19 _ false (by omega) (by simp)).mono ?_; rintro e w1 ⟨rfl, rfl⟩)
    | (go_at_call 26; refine (isRow_is kv _ false (by omega) (by symm; simp; omega)).mono ?_; rintro e w1 ⟨rfl, rfl⟩)
    | (go_at_call 12; refine (isTime_is 19 _ false (by omega) (by simp)).mono ?_; rintro e w1 ⟨rfl, rfl⟩)
    | (go_at_call 34; refine (P.out _ HP.out).mono ?_; rintro e w2 ⟨rfl, hb⟩; obtain ⟨z0, z1, q0, q1, q2, q3, q4, q5, q6, HB⟩ := step_box hb; clear hb)
    | (go_at_call 33; refine (Text_of _ _ (by unfold maxLen; omega)).mono ?_; rw [textR, if_pos (by omega)]; rintro e w4 ⟨rfl, hb4⟩; obtain ⟨u0, u1, l0, l1, l2⟩ := step2 hb4 z0 z1))
  exact bodyPost_ret (v := .tuple #[V 19 0 t, .int .i64 0]) (by simp [results, Tryz.results14, go_sem, l1, q3, q4, q5]) rfl ⟨rfl, (((HB.trans (hb4.mono (Nat.le_of_lt z0))).setCell (by simp) _).setCell (by simp) _).setCell (by simp) _⟩
set_option maxRecDepth 100000 in
set_option maxHeartbeats 1000000 in
theorem Convert_plain (h0 : 0 ≤ b) (h1 : b < 18446744073709551616) (hk : 1 ≤ k ∧ k ≤ 19) (hv : 1 ≤ kv ∧ kv ≤ 13) (hs : s.size ≤ maxLen) (m : may3 kv b s = true) (ne : ¬ kv = k) (hP : Pow w) (k' b' f : Int) (s' : ByteArray)
    (F : Hid (∀ w, Pow w → Calls Tryz.prog 14 #[.int .u8 k, V kv b s] w fun e w' => e = .returned (.tuple #[V k' b' s', .int .i64 f]) ∧ Below w.heap.size w w')) : Calls Tryz.prog 4 #[.int .u8 k, V kv b s] w fun e w' => e = .returned (.tuple #[V k' b' s', .int .i64 f]) ∧ Below w.heap.size w w' := by
  have M : Hid (∀ w, Calls Tryz.prog 7 #[V kv b s] w fun e w' => e = .returned (.bool true) ∧ Below w.heap.size w w') := fun w => by
    have := May_of kv b s w h0 h1 (by omega) hs
    rwa [m] at this
  have g : (kv == k) = false := by simpa using ne
  have f18 : (kv == 18) = false := by simp; omega
  have f19 : (kv == 19) = false := by simp; omega
  have HP : Hid (Pow w) := hP
  clear m hP
  go_enter Tryz.func4, Tryz.ntmps4
  go_wp2_with (first
    | (go_at_call 7; refine (M.out _).mono ?_; rintro e w1 ⟨rfl, hb⟩; obtain ⟨z0, z1, q0, q1, q2, q3, q4, q5, q6, HB⟩ := step_box hb; clear hb)
    | (go_at_call 8; refine (isKind_is k _ true (by omega) (by symm; simpa using hk)).mono ?_; rintro e w2 ⟨rfl, rfl⟩)
    | (go_at_call 12; refine (isTime_is kv _ false (by omega) (by symm; simp; omega)).mono ?_; rintro e w2 ⟨rfl, rfl⟩)
    | (go_at_call 14; refine (F.out _ (pow_below HP.out HB)).mono ?_; rintro e w4 ⟨rfl, hb4⟩; obtain ⟨u0, u1, l0, l1, l2⟩ := step2 hb4 z0 z1))
  exact bodyPost_ret (v := .tuple #[V k' b' s', .int .i64 f]) (by simp [results, Tryz.results4, go_sem, l1, q3, q4, q5]) rfl ⟨rfl, (((HB.trans (hb4.mono (Nat.le_of_lt z0))).setCell (by simp) _).setCell (by simp) _).setCell (by simp) _⟩
set_option maxRecDepth 100000 in
set_option maxHeartbeats 1000000 in
theorem Convert_same (h0 : 0 ≤ b) (h1 : b < 18446744073709551616) (hk : 1 ≤ k ∧ k ≤ 19) (hs : s.size ≤ maxLen) (m : may3 k b s = true) : Calls Tryz.prog 4 #[.int .u8 k, V k b s] w fun e w' => e = .returned (.tuple #[V k b s, .int .i64 0]) ∧ Below w.heap.size w w' := by
  have M : Hid (∀ w, Calls Tryz.prog 7 #[V k b s] w fun e w' => e = .returned (.bool true) ∧ Below w.heap.size w w') := fun w => by
    have := May_of k b s w h0 h1 (by omega) hs
    rwa [m] at this
  clear m
  go_enter Tryz.func4, Tryz.ntmps4
  go_wp2_with (first
    | (go_at_call 7; refine (M.out _).mono ?_; rintro e w1 ⟨rfl, hb⟩; obtain ⟨z0, z1, q0, q1, q2, q3, q4, q5, q6, HB⟩ := step_box hb; clear hb)
    | (go_at_call 8; refine (isKind_is k _ true (by omega) (by symm; simpa using hk)).mono ?_; rintro e w2 ⟨rfl, rfl⟩))
  exact bodyPost_ret (v := .tuple #[V k b s, .int .i64 0]) (by simp [results, Tryz.results4, go_sem, q3, q4, q5]) rfl ⟨rfl, ((HB.setCell (by simp) _).setCell (by simp) _).setCell (by simp) _⟩
set_option maxRecDepth 100000 in
set_option maxHeartbeats 1000000 in
theorem fromText_num (n : Int) (hk : 2 ≤ k ∧ k ≤ 9) (g0 : -18446744073709551616 < n) (g1 : n < 18446744073709551616) (fit : fitOk k n = true) : Calls Tryz.prog 11 #[.int .u8 k, .string (numS n)] w fun e w' => e = .returned (.tuple #[V k (n % 18446744073709551616) E0, .int .i64 0]) ∧ Below w.heap.size w w' := by
  have k1 : (k == 1) = false := by simp; omega
  have hk2 : 0 ≤ k ∧ k < 256 := by omega
  have R : Hid (∀ w, Calls Tryz.prog 29 #[.string (numS n)] w fun e w' => e = .returned (.tuple #[NB n, .bool true]) ∧ Below w.heap.size w w') := fun w => readNumber_num n w g0 g1
  have F : Hid (fitOk k n = true) := fit
  clear fit
  generalize numS n = t at *
  go_enter Tryz.func11, Tryz.ntmps11
  go_wp2_with (first
    | (go_at_call 25; refine (isInteger_is k _ true hk2 (by symm; simp; omega)).mono ?_; rintro e w1 ⟨rfl, rfl⟩)
    | (go_at_call 29; refine (R.out _).mono ?_; rintro e w2 ⟨rfl, hb⟩; obtain ⟨z0, q0, q1, q2, q6, HB⟩ := step_zeroC hb; clear hb)
    | (go_at_call 28; refine (fitted_yes k n _ _ hk2 ⟨g0, g1⟩ F.out).mono ?_; rintro e w4 ⟨rfl, hb4⟩; obtain ⟨y0, p0, p1, p2, p6, PB⟩ := boxC z0 q0 q1 q2 q6 HB hb4; clear hb4))
  exact bodyPost_ret (v := .tuple #[V k (n % 18446744073709551616) E0, .int .i64 0]) (by simp [results, Tryz.results11, go_sem, p0, p1, p2]) rfl ⟨rfl, ((PB.setCell (by simp) _).setCell (by simp) _).setCell (by simp) _⟩
set_option maxRecDepth 100000 in
set_option maxHeartbeats 1000000 in
theorem Convert_text (n : Int) (hk : 2 ≤ k ∧ k ≤ 9) (g0 : -18446744073709551616 < n) (g1 : n < 18446744073709551616) (fit : fitOk k n = true) : Calls Tryz.prog 4 #[.int .u8 k, V 19 0 (numS n)] w fun e w' => e = .returned (.tuple #[V k (n % 18446744073709551616) E0, .int .i64 0]) ∧ Below w.heap.size w w' := by
  have sz := numS_size n g0 g1
  have M : Hid (∀ w, Calls Tryz.prog 7 #[V 19 0 (numS n)] w fun e w' => e = .returned (.bool true) ∧ Below w.heap.size w w') := fun w => by
    have := May_of 19 0 (numS n) w (by omega) (by omega) (by omega) (by unfold maxLen; omega)
    rwa [show may3 19 0 (numS n) = true by simp [may3]; omega] at this
  have g : ((19 : Int) == k) = false := by simp; omega
  have F : Hid (∀ w, Calls Tryz.prog 11 #[.int .u8 k, .string (numS n)] w fun e w' => e = .returned (.tuple #[V k (n % 18446744073709551616) E0, .int .i64 0]) ∧ Below w.heap.size w w') := fun w => fromText_num k w n hk g0 g1 fit
  clear fit
  generalize numS n = t at *
  generalize n % 18446744073709551616 = b at *
  go_enter Tryz.func4, Tryz.ntmps4
  go_wp2_with (first
    | (go_at_call 7; refine (M.out _).mono ?_; rintro e w1 ⟨rfl, hb⟩; obtain ⟨z0, z1, q0, q1, q2, q3, q4, q5, q6, HB⟩ := step_box hb; clear hb)
    | (go_at_call 8; refine (isKind_is k _ true (by omega) (by symm; simp; omega)).mono ?_; rintro e w2 ⟨rfl, rfl⟩)
    | (go_at_call 11; refine (F.out _).mono ?_; rintro e w4 ⟨rfl, hb4⟩; obtain ⟨u0, u1, l0, l1, l2⟩ := step2 hb4 z0 z1))
  exact bodyPost_ret (v := .tuple #[V k b E0, .int .i64 0]) (by simp [results, Tryz.results4, go_sem, l1, q3, q4, q5]) rfl ⟨rfl, (((HB.trans (hb4.mono (Nat.le_of_lt z0))).setCell (by simp) _).setCell (by simp) _).setCell (by simp) _⟩
end
end Go.Proofs.YtlaamkfpdompjaaGreatDoor
