/- What value.Convert answers, for every value and kind: a value that may be, or a fault; no statement of the seat is proved here. -/
import Derived.Test.YtlaamkfpdompjaaGreatDoorCvE
namespace Go.Proofs.YtlaamkfpdompjaaGreatDoor
set_option linter.unusedVariables false
open Go.RowKit
theorem calm_of (x : Nat) (h : x = 9221120237041090561 ∨ fnan x = false) : calm x := by
  intro s t e
  rcases h with rfl | h
  · have : FloatKind.f64.decode 9221120237041090561 = .nan false 2251799813685249 := by rfl
    rw [this] at e
    injection e with e1 e2
    subst e2
    decide
  · exfalso
    unfold fnan at h
    simp only [decide_eq_false_iff_not] at h
    have e' : FloatKind.f64.format.read x = .nan s t := e
    rcases read_cases x with ⟨m, p, q, _⟩ | ⟨q, _⟩ | ⟨f, q, r⟩
    · rw [q] at e'
      cases e'
    · rw [q] at e'
      cases e'
    · exact h r
section
variable (k kv b : Int) (s : ByteArray) (w : World)
theorem fromTime_of (h0 : 0 ≤ b) (h1 : b < 18446744073709551616) (hk : 0 ≤ k ∧ k < 256) (m : may3 kv b s = true) : Calls Tryz.prog 13 #[.int .u8 k, V kv b s] w fun e w' => CvOk k e ∧ Below w.heap.size w w' := by
  by_cases d : k = 5
  · subst d
    exact fromTime_5 kv b s w h0 h1
  · by_cases d2 : k = 15 ∧ kv = 17
    · obtain ⟨rfl, rfl⟩ := d2
      have l : b < 7258118400000000000 := by simp [may3, mayW] at m; exact m.2
      refine (fromTime_d b s w h0 l).mono ?_
      rintro e w' ⟨rfl, hb⟩
      exact ⟨⟨15, _, E0, 0, rfl, by omega, by omega, Nat.zero_le _, fun _ => ⟨(day_may b h0 l).1, rfl⟩⟩, hb⟩
    · by_cases d3 : k = 16 ∧ kv = 17
      · obtain ⟨rfl, rfl⟩ := d3
        have l : b < 7258118400000000000 := by simp [may3, mayW] at m; exact m.2
        refine (fromTime_t b s w h0 l).mono ?_
        rintro e w' ⟨rfl, hb⟩
        exact ⟨⟨16, _, E0, 0, rfl, by omega, by omega, Nat.zero_le _, fun _ => ⟨(day_may b h0 l).2, rfl⟩⟩, hb⟩
      · exact fromTime_8 k kv b s w d d2 d3
theorem fromFloat_of (x : Nat) (hk : 1 ≤ k ∧ k ≤ 19) (h : calm x) : Calls Tryz.prog 9 #[.int .u8 k, .float .f64 x] w fun e w' => CvOk k e ∧ Below w.heap.size w w' := by
  rcases (by omega : k = 1 ∨ (2 ≤ k ∧ k ≤ 13) ∨ 14 ≤ k) with rfl | d | d
  · exact fromFloat_1 x w
  · exact fromFloat_n k x w (by omega) d h
  · exact fromFloat_8 k x w (by omega) d
theorem fromText_of (hk : 1 ≤ k ∧ k ≤ 19) (hs : s.size ≤ maxLen) : Calls Tryz.prog 11 #[.int .u8 k, .string s] w fun e w' => CvOk k e ∧ Below w.heap.size w w' := by
  rcases (by omega : k = 1 ∨ 2 ≤ k) with rfl | d
  · exact fromText_1 s w
  · exact fromText_n k s w (by omega) d hs
set_option maxRecDepth 100000 in
set_option maxHeartbeats 1000000 in
theorem Convert_x (h0 : 0 ≤ b) (h1 : b < 18446744073709551616) (hk : 0 ≤ k ∧ k < 256) (hv : 0 ≤ kv ∧ kv < 256) (hs : s.size ≤ maxLen) (d : may3 kv b s = false ∨ ¬ (1 ≤ k ∧ k ≤ 19)) : Calls Tryz.prog 4 #[.int .u8 k, V kv b s] w fun e w' => CvOk k e ∧ Below w.heap.size w w' := by
  have M : Hid (∀ w, Calls Tryz.prog 7 #[V kv b s] w fun e w' => e = .returned (.bool (may3 kv b s)) ∧ Below w.heap.size w w') := fun w => May_of kv b s w h0 h1 hv hs
  cases m : may3 kv b s
  · rw [m] at M
    clear d m
    go_enter Tryz.func4, Tryz.ntmps4
    go_wp2_with (go_at_call 7; refine (M.out _).mono ?_; rintro e w1 ⟨rfl, hb⟩; obtain ⟨z0, z1, q0, q1, q2, q3, q4, q5, q6, HB⟩ := step_box hb; clear hb)
    exact bodyPost_ret (v := .tuple #[V 0 0 E0, .int .i64 8]) (by simp [results, Tryz.results4, go_sem, q3, q4, q5]) rfl ⟨cv_fault k 8 (by omega), ((HB.setCell (by simp) _).setCell (by simp) _).setCell (by simp) _⟩
  · have dk : ¬ (1 ≤ k ∧ k ≤ 19) := by
      rcases d with d | d
      · rw [m] at d
        cases d
      · exact d
    rw [m] at M
    clear d m
    have DK : Hid _ := dk
    clear dk
    go_enter Tryz.func4, Tryz.ntmps4
    go_wp2_with (first
      | (go_at_call 7; refine (M.out _).mono ?_; rintro e w1 ⟨rfl, hb⟩; obtain ⟨z0, z1, q0, q1, q2, q3, q4, q5, q6, HB⟩ := step_box hb; clear hb)
      | (go_at_call 8; refine (isKind_is k _ false hk (by symm; rw [decide_eq_false_iff_not]; exact DK.out)).mono ?_; rintro e w2 ⟨rfl, rfl⟩))
    exact bodyPost_ret (v := .tuple #[V 0 0 E0, .int .i64 8]) (by simp [results, Tryz.results4, go_sem, q3, q4, q5]) rfl ⟨cv_fault k 8 (by omega), ((HB.setCell (by simp) _).setCell (by simp) _).setCell (by simp) _⟩
set_option maxRecDepth 100000 in
set_option maxHeartbeats 2000000 in
theorem Convert_y (h0 : 0 ≤ b) (h1 : b < 18446744073709551616) (hk : 1 ≤ k ∧ k ≤ 19) (hv : 0 ≤ kv ∧ kv < 256) (hs : s.size ≤ maxLen) (m : may3 kv b s = true) (hP : Pow w) : Calls Tryz.prog 4 #[.int .u8 k, V kv b s] w fun e w' => CvOk k e ∧ Below w.heap.size w w' := by
  have M : Hid (∀ w, Calls Tryz.prog 7 #[V kv b s] w fun e w' => e = .returned (.bool true) ∧ Below w.heap.size w w') := fun w => by
    have := May_of kv b s w h0 h1 hv hs
    rwa [m] at this
  by_cases e : kv = k
  · subst e
    have CV : CvOk kv (.returned (.tuple #[V kv b s, .int .i64 0])) := ⟨kv, b, s, 0, rfl, ⟨h0, h1⟩, hv, hs, fun _ => ⟨m, rfl⟩⟩
    clear m hP
    go_enter Tryz.func4, Tryz.ntmps4
    go_wp2_with (first
      | (go_at_call 7; refine (M.out _).mono ?_; rintro e w1 ⟨rfl, hb⟩; obtain ⟨z0, z1, q0, q1, q2, q3, q4, q5, q6, HB⟩ := step_box hb; clear hb)
      | (go_at_call 8; refine (isKind_is kv _ true hv (by symm; simpa using hk)).mono ?_; rintro e w2 ⟨rfl, rfl⟩))
    exact bodyPost_ret (v := .tuple #[V kv b s, .int .i64 0]) (by simp [results, Tryz.results4, go_sem, q3, q4, q5]) rfl ⟨CV, ((HB.setCell (by simp) _).setCell (by simp) _).setCell (by simp) _⟩
  · have f : (kv == k) = false := by simpa using e
    have hx := call_frombits
    by_cases e18 : kv = 18
    · subst e18
      have cm : calm b.toNat := by
        apply calm_of
        simp [may3, mayW] at m
        rcases m.2 with q | q
        · left; omega
        · right; exact q
      have F : Hid (∀ w, Calls Tryz.prog 9 #[.int .u8 k, .float .f64 b.toNat] w fun e w' => CvOk k e ∧ Below w.heap.size w w') := fun w => fromFloat_of k w b.toNat hk cm
      clear m hP e
      go_enter Tryz.func4, Tryz.ntmps4
      go_wp2_with (first
        | (go_at_call 7; refine (M.out _).mono ?_; rintro e w1 ⟨rfl, hb⟩; obtain ⟨z0, z1, q0, q1, q2, q3, q4, q5, q6, HB⟩ := step_box hb; clear hb)
        | (go_at_call 8; refine (isKind_is k _ true (by omega) (by symm; simpa using hk)).mono ?_; rintro e w2 ⟨rfl, rfl⟩)
        | (go_at_call 9; refine (F.out _).mono ?_; rintro e w4 ⟨⟨k', b', s', f, rfl, hb', hk', hs', hf⟩, hb4⟩; obtain ⟨u0, u1, l0, l1, l2⟩ := step2 hb4 z0 z1))
      exact bodyPost_ret (v := .tuple #[V k' b' s', .int .i64 f]) (by simp [results, Tryz.results4, go_sem, l1, q3, q4, q5]) rfl ⟨⟨k', b', s', f, rfl, hb', hk', hs', hf⟩, (((HB.trans (hb4.mono (Nat.le_of_lt z0))).setCell (by simp) _).setCell (by simp) _).setCell (by simp) _⟩
    · have f18 : (kv == 18) = false := by simpa using e18
      by_cases e19 : kv = 19
      · subst e19
        have F : Hid (∀ w, Calls Tryz.prog 11 #[.int .u8 k, .string s] w fun e w' => CvOk k e ∧ Below w.heap.size w w') := fun w => fromText_of k s w hk hs
        clear m hP e
        go_enter Tryz.func4, Tryz.ntmps4
        go_wp2_with (first
          | (go_at_call 7; refine (M.out _).mono ?_; rintro e w1 ⟨rfl, hb⟩; obtain ⟨z0, z1, q0, q1, q2, q3, q4, q5, q6, HB⟩ := step_box hb; clear hb)
          | (go_at_call 8; refine (isKind_is k _ true (by omega) (by symm; simpa using hk)).mono ?_; rintro e w2 ⟨rfl, rfl⟩)
          | (go_at_call 11; refine (F.out _).mono ?_; rintro e w4 ⟨⟨k', b', s', f, rfl, hb', hk', hs', hf⟩, hb4⟩; obtain ⟨u0, u1, l0, l1, l2⟩ := step2 hb4 z0 z1))
        exact bodyPost_ret (v := .tuple #[V k' b' s', .int .i64 f]) (by simp [results, Tryz.results4, go_sem, l1, q3, q4, q5]) rfl ⟨⟨k', b', s', f, rfl, hb', hk', hs', hf⟩, (((HB.trans (hb4.mono (Nat.le_of_lt z0))).setCell (by simp) _).setCell (by simp) _).setCell (by simp) _⟩
      · have f19 : (kv == 19) = false := by simpa using e19
        by_cases et : 14 ≤ kv ∧ kv ≤ 17
        · have F : Hid (∀ w, Calls Tryz.prog 13 #[.int .u8 k, V kv b s] w fun e w' => CvOk k e ∧ Below w.heap.size w w') := fun w => fromTime_of k kv b s w h0 h1 (by omega) m
          clear m hP e
          go_enter Tryz.func4, Tryz.ntmps4
          go_wp2_with (first
            | (go_at_call 7; refine (M.out _).mono ?_; rintro e w1 ⟨rfl, hb⟩; obtain ⟨z0, z1, q0, q1, q2, q3, q4, q5, q6, HB⟩ := step_box hb; clear hb)
            | (go_at_call 8; refine (isKind_is k _ true (by omega) (by symm; simpa using hk)).mono ?_; rintro e w2 ⟨rfl, rfl⟩)
            | (go_at_call 12; refine (isTime_is kv _ true hv (by symm; simpa using et)).mono ?_; rintro e w2 ⟨rfl, rfl⟩)
            | (go_at_call 13; refine (F.out _).mono ?_; rintro e w4 ⟨⟨k', b', s', f, rfl, hb', hk', hs', hf⟩, hb4⟩; obtain ⟨u0, u1, l0, l1, l2⟩ := step2 hb4 z0 z1))
          exact bodyPost_ret (v := .tuple #[V k' b' s', .int .i64 f]) (by simp [results, Tryz.results4, go_sem, l1, q3, q4, q5]) rfl ⟨⟨k', b', s', f, rfl, hb', hk', hs', hf⟩, (((HB.trans (hb4.mono (Nat.le_of_lt z0))).setCell (by simp) _).setCell (by simp) _).setCell (by simp) _⟩
        · have v1 : 1 ≤ kv ∧ kv ≤ 13 := by
            have : kv ≠ 0 ∧ kv ≤ 19 := by
              constructor
              · rintro rfl
                simp [may3, mayW] at m
              · apply Classical.byContradiction
                intro q
                simp only [may3, mayW] at m
                simp [show ¬ kv = 19 by omega, show ¬ kv = 1 by omega, show ¬ kv = 2 by omega, show ¬ kv = 3 by omega, show ¬ kv = 4 by omega, show ¬ kv = 5 by omega, show ¬ kv = 6 by omega, show ¬ kv = 7 by omega, show ¬ kv = 8 by omega, show ¬ kv = 9 by omega, show ¬ kv = 10 by omega, show ¬ kv = 11 by omega, show ¬ kv = 12 by omega, show ¬ kv = 13 by omega, show ¬ kv = 14 by omega, show ¬ kv = 15 by omega, show ¬ kv = 16 by omega, show ¬ kv = 17 by omega, show ¬ kv = 18 by omega] at m
            omega
          have F : Hid (∀ w, Pow w → Calls Tryz.prog 14 #[.int .u8 k, V kv b s] w fun e w' => CvOk k e ∧ Below w.heap.size w w') := fun w hp => fromPlain_of k kv b s w h0 h1 hs hk v1 m hp
          have HP : Hid (Pow w) := hP
          have ET : Hid _ := et
          clear m hP e et
          go_enter Tryz.func4, Tryz.ntmps4
          go_wp2_with (first
            | (go_at_call 7; refine (M.out _).mono ?_; rintro e w1 ⟨rfl, hb⟩; obtain ⟨z0, z1, q0, q1, q2, q3, q4, q5, q6, HB⟩ := step_box hb; clear hb)
            | (go_at_call 8; refine (isKind_is k _ true (by omega) (by symm; simpa using hk)).mono ?_; rintro e w2 ⟨rfl, rfl⟩)
            | (go_at_call 12; refine (isTime_is kv _ false hv (by symm; rw [decide_eq_false_iff_not]; exact ET.out)).mono ?_; rintro e w2 ⟨rfl, rfl⟩)
            | (go_at_call 14; refine (F.out _ (pow_below HP.out HB)).mono ?_; rintro e w4 ⟨⟨k', b', s', f, rfl, hb', hk', hs', hf⟩, hb4⟩; obtain ⟨u0, u1, l0, l1, l2⟩ := step2 hb4 z0 z1))
          exact bodyPost_ret (v := .tuple #[V k' b' s', .int .i64 f]) (by simp [results, Tryz.results4, go_sem, l1, q3, q4, q5]) rfl ⟨⟨k', b', s', f, rfl, hb', hk', hs', hf⟩, (((HB.trans (hb4.mono (Nat.le_of_lt z0))).setCell (by simp) _).setCell (by simp) _).setCell (by simp) _⟩
theorem Convert_of (h0 : 0 ≤ b) (h1 : b < 18446744073709551616) (hk : 0 ≤ k ∧ k < 256) (hv : 0 ≤ kv ∧ kv < 256) (hs : s.size ≤ maxLen) (hP : Pow w) : Calls Tryz.prog 4 #[.int .u8 k, V kv b s] w fun e w' => CvOk k e ∧ Below w.heap.size w w' := by
  by_cases a : may3 kv b s = false ∨ ¬ (1 ≤ k ∧ k ≤ 19)
  · exact Convert_x k kv b s w h0 h1 hk hv hs a
  · have m : may3 kv b s = true := by
      cases q : may3 kv b s
      · exact absurd (Or.inl q) a
      · rfl
    have d : 1 ≤ k ∧ k ≤ 19 := Classical.byContradiction (fun q => a (Or.inr q))
    exact Convert_y k kv b s w h0 h1 d hv hs m hP
end
end Go.Proofs.YtlaamkfpdompjaaGreatDoor
