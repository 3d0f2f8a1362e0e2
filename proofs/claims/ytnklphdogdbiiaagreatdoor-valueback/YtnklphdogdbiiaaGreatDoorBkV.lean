/- The document's Convert of an integer; no statement of the seat is proved here. -/
import Derived.Test.YtnklphdogdbiiaaGreatDoorBkS
namespace Go.Proofs.YtnklphdogdbiiaaGreatDoor
set_option linter.unusedVariables false
open Go.RowKit
section
variable (l k b : Int) (w : World)
theorem fit_self (b0 : 0 ≤ b) (b1 : b < 18446744073709551616) (hk : 2 ≤ k ∧ k ≤ 9) (m : may3 k b E0 = true) : fitOk k (num k b) = true := by
  have e : num k b % 18446744073709551616 = b := by
    by_cases n : k ≤ 5 ∧ 9223372036854775808 ≤ b
    · rw [num_neg k b ⟨hk.1, n.1⟩ n.2 b1]; omega
    · rw [num_pos k b hk b0 b1 n]; omega
  unfold fitOk
  rw [e, m]
  simp
set_option maxRecDepth 100000 in
set_option maxHeartbeats 2000000 in
theorem ConvertR_no (b0 : 0 ≤ b) (b1 : b < 18446744073709551616) (hl : 0 ≤ l ∧ l < 256) (ln : ¬ (1 ≤ l ∧ l ≤ 19)) (ki : 2 ≤ k ∧ k ≤ 9) (m : may3 k b E0 = true) :
    Calls Tryz.prog 9 #[.int .u8 l, V k b E0] w fun e w' => RcOk l (num k b) e ∧ Below w.heap.size w w' := by
  have MR : Hid (∀ w, Calls Tryz.prog 16 #[V k b E0] w fun e w' => e = .returned (.bool true) ∧ Below w.heap.size w w') := fun w => by
    have := MayR_of k b E0 w b0 b1 (by omega) (Nat.zero_le _)
    rwa [m] at this
  have R0 : Hid (RcOk l (num k b) (.returned (.tuple #[V 0 0 E0, .int .i64 8]))) := rc_none l (num k b) 8 (by omega)
  clear m
  generalize num k b = N at *
  go_enter Tryz.func9, Tryz.ntmps9
  go_wp2_with (first
    | (go_at_call 16; refine (MR.out _).mono ?_; rintro e w1 ⟨rfl, hb⟩; obtain ⟨z0, z1, q0, q1, q2, q3, q4, q5, q6, HB⟩ := step_box hb; clear hb)
    | (go_at_call 26; refine (elemR_is l _ false hl (by symm; simp; omega)).mono ?_; rintro e w2 ⟨rfl, rfl⟩))
  exact bodyPost_ret (v := .tuple #[V 0 0 E0, .int .i64 8]) (by simp [results, Tryz.results9, go_sem, q3, q4, q5]) rfl ⟨R0.out, by first | exact HB | exact ((HB.setCell (by simp) _).setCell (by simp) _).setCell (by simp) _⟩
set_option maxRecDepth 100000 in
set_option maxHeartbeats 2000000 in
theorem ConvertR_same (b0 : 0 ≤ b) (b1 : b < 18446744073709551616) (ki : 2 ≤ k ∧ k ≤ 9) (m : may3 k b E0 = true) :
    Calls Tryz.prog 9 #[.int .u8 k, V k b E0] w fun e w' => RcOk k (num k b) e ∧ Below w.heap.size w w' := by
  have MR : Hid (∀ w, Calls Tryz.prog 16 #[V k b E0] w fun e w' => e = .returned (.bool true) ∧ Below w.heap.size w w') := fun w => by
    have := MayR_of k b E0 w b0 b1 (by omega) (Nat.zero_le _)
    rwa [m] at this
  have R0 : Hid (RcOk k (num k b) (.returned (.tuple #[V k b E0, .int .i64 0]))) := ⟨k, b, E0, 0, rfl, fun _ _ => fit_self k b b0 b1 ki m⟩
  have hl : 0 ≤ k ∧ k < 256 := by omega
  clear m
  generalize num k b = N at *
  go_enter Tryz.func9, Tryz.ntmps9
  go_wp2_with (first
    | (go_at_call 16; refine (MR.out _).mono ?_; rintro e w1 ⟨rfl, hb⟩; obtain ⟨z0, z1, q0, q1, q2, q3, q4, q5, q6, HB⟩ := step_box hb; clear hb)
    | (go_at_call 26; refine (elemR_is k _ true hl (by symm; simp; omega)).mono ?_; rintro e w2 ⟨rfl, rfl⟩))
  exact bodyPost_ret (v := .tuple #[V k b E0, .int .i64 0]) (by simp [results, Tryz.results9, go_sem, q3, q4, q5]) rfl ⟨R0.out, by first | exact HB | exact ((HB.setCell (by simp) _).setCell (by simp) _).setCell (by simp) _⟩
set_option maxRecDepth 100000 in
set_option maxHeartbeats 2000000 in
theorem ConvertR_plain (b0 : 0 ≤ b) (b1 : b < 18446744073709551616) (hl : 1 ≤ l ∧ l ≤ 19) (ki : 2 ≤ k ∧ k ≤ 9) (ne : ¬ k = l) (m : may3 k b E0 = true) (hP : Pow w) :
    Calls Tryz.prog 9 #[.int .u8 l, V k b E0] w fun e w' => RcOk l (num k b) e ∧ Below w.heap.size w w' := by
  have MR : Hid (∀ w, Calls Tryz.prog 16 #[V k b E0] w fun e w' => e = .returned (.bool true) ∧ Below w.heap.size w w') := fun w => by
    have := MayR_of k b E0 w b0 b1 (by omega) (Nat.zero_le _)
    rwa [m] at this
  have FW : Hid (∀ w, Pow w → Calls Tryz.prog 30 #[.int .u8 l, V k b E0] w fun e w' => RcOk l (num k b) e ∧ Below w.heap.size w w') := fun w h => fw_all l k b w b0 b1 hl ki m h
  have HP : Hid (Pow w) := hP
  have hl2 : 0 ≤ l ∧ l < 256 := by omega
  have hk2 : 0 ≤ k ∧ k < 256 := by omega
  have k1 : (k == l) = false := by simp; omega
  have k18 : (k == 18) = false := by simp; omega
  have k19 : (k == 19) = false := by simp; omega
  clear m hP ne
  generalize num k b = N at *
  go_enter Tryz.func9, Tryz.ntmps9
  go_wp2_with (first
    | (go_at_call 16; refine (MR.out _).mono ?_; rintro e w1 ⟨rfl, hb⟩; obtain ⟨z0, z1, q0, q1, q2, q3, q4, q5, q6, HB⟩ := step_box hb; clear hb)
    | (go_at_call 26; refine (elemR_is l _ true hl2 (by symm; simp; omega)).mono ?_; rintro e w2 ⟨rfl, rfl⟩)
    | (go_at_call 14; refine (TimeR_is k _ false hk2 (by symm; simp; omega)).mono ?_; rintro e w2 ⟨rfl, rfl⟩)
    | (go_at_call 30; refine (FW.out _ (pow_below HP.out HB)).mono ?_; rintro e w4 ⟨⟨k', b', s', g, rfl, hg⟩, hb4⟩; obtain ⟨u0, u1, l0, l1, l2⟩ := step2 hb4 z0 z1))
  exact bodyPost_ret (v := .tuple #[V k' b' s', .int .i64 g]) (by simp [results, Tryz.results9, go_sem, l1, q3, q4, q5]) rfl ⟨⟨k', b', s', g, rfl, hg⟩, (((HB.trans (hb4.mono (Nat.le_of_lt z0))).setCell (by simp) _).setCell (by simp) _).setCell (by simp) _⟩
theorem ConvertR_of (b0 : 0 ≤ b) (b1 : b < 18446744073709551616) (hl : 0 ≤ l ∧ l < 256) (ki : 2 ≤ k ∧ k ≤ 9) (m : may3 k b E0 = true) (hP : Pow w) :
    Calls Tryz.prog 9 #[.int .u8 l, V k b E0] w fun e w' => RcOk l (num k b) e ∧ Below w.heap.size w w' := by
  by_cases ln : 1 ≤ l ∧ l ≤ 19
  · by_cases e : k = l
    · subst e
      exact ConvertR_same k b w b0 b1 ki m
    · exact ConvertR_plain l k b w b0 b1 ln ki e m hP
  · exact ConvertR_no l k b w b0 b1 hl ln ki m
end
end Go.Proofs.YtnklphdogdbiiaaGreatDoor
