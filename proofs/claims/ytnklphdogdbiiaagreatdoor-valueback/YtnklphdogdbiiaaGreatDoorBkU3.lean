/- The document's 'fromWhole' of an integer, to kinds of class time; no statement of the seat is proved here. -/
import Derived.Test.YtnklphdogdbiiaaGreatDoorBkR
import Derived.Test.YtnklphdogdbiiaaGreatDoorBkT
namespace Go.Proofs.YtnklphdogdbiiaaGreatDoor
set_option linter.unusedVariables false
open Go.RowKit
section
variable (l kv b : Int) (w : World)
set_option maxRecDepth 100000 in
set_option maxHeartbeats 2000000 in
theorem fw_neg_time5a (h0 : 9223372036854775808 ≤ b) (h1 : b < 18446744073709551616) :
    Calls Tryz.prog 30 #[.int .u8 14, V 5 b E0] w fun e w' => RcOk 14 (b - 18446744073709551616) e ∧ Below w.heap.size w w' := by
  have hk2 : (0 : Int) ≤ 5 ∧ (5 : Int) < 256 := by omega
  have wb : wrap64 b = b - 18446744073709551616 := by unfold wrap64; omega
  have ng : IntKind.u64.wrap (-b) = 18446744073709551616 - b := by rw [IntKind.wrap_u64]; omega
  have hl2 : (0 : Int) ≤ 14 ∧ (14 : Int) < 256 := by omega
  obtain ⟨k', b', g, eq, hg⟩ := rv_form (mayW 14 b) 14 b
  have MD : Hid (∀ w, Calls Tryz.prog 49 #[.int .u8 14, .int .u64 b, .int .i64 7] w fun e w' => e = .returned (.tuple #[V k' b' E0, .int .i64 g]) ∧ Below w.heap.size w w') := fun w => by
    have := made_of 14 b 7 w (by omega) h1 hl2
    rwa [eq] at this
  have WR : Hid (∀ w, Calls Tryz.prog 13 #[.int .u8 14] w fun e w' => e = .returned (.int .i64 0) ∧ w' = w) := fun w => by
    have := WidthR_is 14 w hl2
    rwa [show widN 14 = 0 by unfold widN; rw [if_neg (by omega), if_neg (by omega), if_neg (by omega), if_neg (by omega)]] at this
  clear eq hg
  go_enter Tryz.func30, Tryz.ntmps30
  go_wp2_with (first
    | (go_at_call 15; refine (SignedR_is 5 _ true hk2 (by first | decide | (symm; simp; omega))).mono ?_; rintro e w2 ⟨rfl, rfl⟩)
    | (go_at_call 13; refine (WR.out _).mono ?_; rintro e w2 ⟨rfl, rfl⟩)
    | (go_at_call 14; refine (TimeR_is 14 _ true hl2 (by first | decide | (symm; simp; omega))).mono ?_; rintro e w2 ⟨rfl, rfl⟩)
    | (go_at_call 49; refine (MD.out _).mono ?_; rintro e w1 ⟨rfl, hb⟩; obtain ⟨z0, z1, q0, q1, q2, q3, q4, q5, q6, HB⟩ := step_box hb; clear hb))
  exact bodyPost_ret (v := .tuple #[V k' b' E0, .int .i64 g]) (by simp [results, Tryz.results30, go_sem, q3, q4, q5]) rfl ⟨⟨k', b', E0, g, rfl, fun h _ => absurd h.2 (by omega)⟩, ((HB.setCell (by simp) _).setCell (by simp) _).setCell (by simp) _⟩
set_option maxRecDepth 100000 in
set_option maxHeartbeats 2000000 in
theorem fw_neg_time5b (h0 : 9223372036854775808 ≤ b) (h1 : b < 18446744073709551616) (d : 14 ≤ l ∧ l ≤ 17) (l14 : (l == 14) = false) :
    Calls Tryz.prog 30 #[.int .u8 l, V 5 b E0] w fun e w' => RcOk l (b - 18446744073709551616) e ∧ Below w.heap.size w w' := by
  have hk2 : (0 : Int) ≤ 5 ∧ (5 : Int) < 256 := by omega
  have wb : wrap64 b = b - 18446744073709551616 := by unfold wrap64; omega
  have ng : IntKind.u64.wrap (-b) = 18446744073709551616 - b := by rw [IntKind.wrap_u64]; omega
  have hl2 : 0 ≤ l ∧ l < 256 := by omega
  have k1 : (l == 1) = false := by simp; omega
  have k18 : (l == 18) = false := by simp; omega
  have k19 : (l == 19) = false := by simp; omega
  obtain ⟨k', b', g, eq, hg⟩ := rv_form (mayW l b) l b
  have MD : Hid (∀ w, Calls Tryz.prog 49 #[.int .u8 l, .int .u64 b, .int .i64 7] w fun e w' => e = .returned (.tuple #[V k' b' E0, .int .i64 g]) ∧ Below w.heap.size w w') := fun w => by
    have := made_of l b 7 w (by omega) h1 hl2
    rwa [eq] at this
  have WR : Hid (∀ w, Calls Tryz.prog 13 #[.int .u8 l] w fun e w' => e = .returned (.int .i64 0) ∧ w' = w) := fun w => by
    have := WidthR_is l w hl2
    rwa [show widN l = 0 by unfold widN; rw [if_neg (by omega), if_neg (by omega), if_neg (by omega), if_neg (by omega)]] at this
  clear eq hg
  go_enter Tryz.func30, Tryz.ntmps30
  go_wp2_with (first
    | (go_at_call 15; refine (SignedR_is 5 _ true hk2 (by first | decide | (symm; simp; omega))).mono ?_; rintro e w2 ⟨rfl, rfl⟩)
    | (go_at_call 13; refine (WR.out _).mono ?_; rintro e w2 ⟨rfl, rfl⟩)
    | (go_at_call 14; refine (TimeR_is l _ true hl2 (by first | decide | (symm; simp; omega))).mono ?_; rintro e w2 ⟨rfl, rfl⟩)
    | (go_at_call 49; refine (MD.out _).mono ?_; rintro e w1 ⟨rfl, hb⟩; obtain ⟨z0, z1, q0, q1, q2, q3, q4, q5, q6, HB⟩ := step_box hb; clear hb))
  exact bodyPost_ret (v := .tuple #[V 0 0 E0, .int .i64 7]) (by simp [results, Tryz.results30, go_sem]) rfl ⟨rc_none l (b - 18446744073709551616) 7 (by omega), ((Below.refl _ _).alloc (Nat.le_refl _) _).alloc (by simp) _⟩
set_option maxRecDepth 100000 in
set_option maxHeartbeats 2000000 in
theorem fw_neg_timex (h0 : 9223372036854775808 ≤ b) (h1 : b < 18446744073709551616) (hk : 2 ≤ kv ∧ kv ≤ 5) (d : 14 ≤ l ∧ l ≤ 17) (k5 : (kv == 5) = false) :
    Calls Tryz.prog 30 #[.int .u8 l, V kv b E0] w fun e w' => RcOk l (b - 18446744073709551616) e ∧ Below w.heap.size w w' := by
  have hk2 : 0 ≤ kv ∧ kv < 256 := by omega
  have wb : wrap64 b = b - 18446744073709551616 := by unfold wrap64; omega
  have ng : IntKind.u64.wrap (-b) = 18446744073709551616 - b := by rw [IntKind.wrap_u64]; omega
  have hl2 : 0 ≤ l ∧ l < 256 := by omega
  have k1 : (l == 1) = false := by simp; omega
  have k18 : (l == 18) = false := by simp; omega
  have k19 : (l == 19) = false := by simp; omega
  obtain ⟨k', b', g, eq, hg⟩ := rv_form (mayW l b) l b
  have MD : Hid (∀ w, Calls Tryz.prog 49 #[.int .u8 l, .int .u64 b, .int .i64 7] w fun e w' => e = .returned (.tuple #[V k' b' E0, .int .i64 g]) ∧ Below w.heap.size w w') := fun w => by
    have := made_of l b 7 w (by omega) h1 hl2
    rwa [eq] at this
  have WR : Hid (∀ w, Calls Tryz.prog 13 #[.int .u8 l] w fun e w' => e = .returned (.int .i64 0) ∧ w' = w) := fun w => by
    have := WidthR_is l w hl2
    rwa [show widN l = 0 by unfold widN; rw [if_neg (by omega), if_neg (by omega), if_neg (by omega), if_neg (by omega)]] at this
  clear eq hg
  go_enter Tryz.func30, Tryz.ntmps30
  go_wp2_with (first
    | (go_at_call 15; refine (SignedR_is kv _ true hk2 (by first | decide | (symm; simp; omega))).mono ?_; rintro e w2 ⟨rfl, rfl⟩)
    | (go_at_call 13; refine (WR.out _).mono ?_; rintro e w2 ⟨rfl, rfl⟩)
    | (go_at_call 14; refine (TimeR_is l _ true hl2 (by first | decide | (symm; simp; omega))).mono ?_; rintro e w2 ⟨rfl, rfl⟩)
    | (go_at_call 49; refine (MD.out _).mono ?_; rintro e w1 ⟨rfl, hb⟩; obtain ⟨z0, z1, q0, q1, q2, q3, q4, q5, q6, HB⟩ := step_box hb; clear hb))
  exact bodyPost_ret (v := .tuple #[V 0 0 E0, .int .i64 8]) (by simp [results, Tryz.results30, go_sem]) rfl ⟨rc_none l (b - 18446744073709551616) 8 (by omega), ((Below.refl _ _).alloc (Nat.le_refl _) _).alloc (by simp) _⟩
set_option maxRecDepth 100000 in
set_option maxHeartbeats 2000000 in
theorem fw_pos_time5 (h0 : 0 ≤ b) (h1 : b < 18446744073709551616) (bs : b < 9223372036854775808) (d : 14 ≤ l ∧ l ≤ 17) :
    Calls Tryz.prog 30 #[.int .u8 l, V 5 b E0] w fun e w' => RcOk l b e ∧ Below w.heap.size w w' := by
  have hk2 : (0 : Int) ≤ 5 ∧ (5 : Int) < 256 := by omega
  have hl2 : 0 ≤ l ∧ l < 256 := by omega
  have k1 : (l == 1) = false := by simp; omega
  have k18 : (l == 18) = false := by simp; omega
  have k19 : (l == 19) = false := by simp; omega
  obtain ⟨k', b', g, eq, hg⟩ := rv_form (mayW l b) l b
  have MD : Hid (∀ w, Calls Tryz.prog 49 #[.int .u8 l, .int .u64 b, .int .i64 7] w fun e w' => e = .returned (.tuple #[V k' b' E0, .int .i64 g]) ∧ Below w.heap.size w w') := fun w => by
    have := made_of l b 7 w (by omega) h1 hl2
    rwa [eq] at this
  have WR : Hid (∀ w, Calls Tryz.prog 13 #[.int .u8 l] w fun e w' => e = .returned (.int .i64 0) ∧ w' = w) := fun w => by
    have := WidthR_is l w hl2
    rwa [show widN l = 0 by unfold widN; rw [if_neg (by omega), if_neg (by omega), if_neg (by omega), if_neg (by omega)]] at this
  clear eq hg
  have wb : wrap64 b = b := by unfold wrap64; omega
  go_enter Tryz.func30, Tryz.ntmps30
  go_wp2_with (first
    | (go_at_call 15; refine (SignedR_is 5 _ true hk2 (by first | decide | (symm; simp; omega))).mono ?_; rintro e w2 ⟨rfl, rfl⟩)
    | (go_at_call 13; refine (WR.out _).mono ?_; rintro e w2 ⟨rfl, rfl⟩)
    | (go_at_call 14; refine (TimeR_is l _ true hl2 (by first | decide | (symm; simp; omega))).mono ?_; rintro e w2 ⟨rfl, rfl⟩)
    | (go_at_call 49; refine (MD.out _).mono ?_; rintro e w1 ⟨rfl, hb⟩; obtain ⟨z0, z1, q0, q1, q2, q3, q4, q5, q6, HB⟩ := step_box hb; clear hb))
  exact bodyPost_ret (v := .tuple #[V k' b' E0, .int .i64 g]) (by simp [results, Tryz.results30, go_sem, q3, q4, q5]) rfl ⟨⟨k', b', E0, g, rfl, fun h _ => absurd h.2 (by omega)⟩, ((HB.setCell (by simp) _).setCell (by simp) _).setCell (by simp) _⟩
set_option maxRecDepth 100000 in
set_option maxHeartbeats 2000000 in
theorem fw_pos_timex (h0 : 0 ≤ b) (h1 : b < 18446744073709551616) (hk : 2 ≤ kv ∧ kv ≤ 9) (np : kv ≤ 5 → b < 9223372036854775808) (d : 14 ≤ l ∧ l ≤ 17) (k5 : (kv == 5) = false) :
    Calls Tryz.prog 30 #[.int .u8 l, V kv b E0] w fun e w' => RcOk l b e ∧ Below w.heap.size w w' := by
  have hk2 : 0 ≤ kv ∧ kv < 256 := by omega
  have hl2 : 0 ≤ l ∧ l < 256 := by omega
  have k1 : (l == 1) = false := by simp; omega
  have k18 : (l == 18) = false := by simp; omega
  have k19 : (l == 19) = false := by simp; omega
  obtain ⟨k', b', g, eq, hg⟩ := rv_form (mayW l b) l b
  have MD : Hid (∀ w, Calls Tryz.prog 49 #[.int .u8 l, .int .u64 b, .int .i64 7] w fun e w' => e = .returned (.tuple #[V k' b' E0, .int .i64 g]) ∧ Below w.heap.size w w') := fun w => by
    have := made_of l b 7 w (by omega) h1 hl2
    rwa [eq] at this
  have WR : Hid (∀ w, Calls Tryz.prog 13 #[.int .u8 l] w fun e w' => e = .returned (.int .i64 0) ∧ w' = w) := fun w => by
    have := WidthR_is l w hl2
    rwa [show widN l = 0 by unfold widN; rw [if_neg (by omega), if_neg (by omega), if_neg (by omega), if_neg (by omega)]] at this
  clear eq hg
  by_cases ks : kv ≤ 5
  · have bs := np ks
    have wb : wrap64 b = b := by unfold wrap64; omega
    go_enter Tryz.func30, Tryz.ntmps30
    go_wp2_with (first
      | (go_at_call 15; refine (SignedR_is kv _ true hk2 (by first | decide | (symm; simp; omega))).mono ?_; rintro e w2 ⟨rfl, rfl⟩)
      | (go_at_call 13; refine (WR.out _).mono ?_; rintro e w2 ⟨rfl, rfl⟩)
      | (go_at_call 14; refine (TimeR_is l _ true hl2 (by first | decide | (symm; simp; omega))).mono ?_; rintro e w2 ⟨rfl, rfl⟩)
      | (go_at_call 49; refine (MD.out _).mono ?_; rintro e w1 ⟨rfl, hb⟩; obtain ⟨z0, z1, q0, q1, q2, q3, q4, q5, q6, HB⟩ := step_box hb; clear hb))
    exact bodyPost_ret (v := .tuple #[V 0 0 E0, .int .i64 8]) (by simp [results, Tryz.results30, go_sem]) rfl ⟨rc_none l b 8 (by omega), ((Below.refl _ _).alloc (Nat.le_refl _) _).alloc (by simp) _⟩
  · go_enter Tryz.func30, Tryz.ntmps30
    go_wp2_with (first
      | (go_at_call 15; refine (SignedR_is kv _ false hk2 (by first | decide | (symm; simp; omega))).mono ?_; rintro e w2 ⟨rfl, rfl⟩)
      | (go_at_call 13; refine (WR.out _).mono ?_; rintro e w2 ⟨rfl, rfl⟩)
      | (go_at_call 14; refine (TimeR_is l _ true hl2 (by first | decide | (symm; simp; omega))).mono ?_; rintro e w2 ⟨rfl, rfl⟩)
      | (go_at_call 49; refine (MD.out _).mono ?_; rintro e w1 ⟨rfl, hb⟩; obtain ⟨z0, z1, q0, q1, q2, q3, q4, q5, q6, HB⟩ := step_box hb; clear hb))
    exact bodyPost_ret (v := .tuple #[V 0 0 E0, .int .i64 8]) (by simp [results, Tryz.results30, go_sem]) rfl ⟨rc_none l b 8 (by omega), ((Below.refl _ _).alloc (Nat.le_refl _) _).alloc (by simp) _⟩
end
end Go.Proofs.YtnklphdogdbiiaaGreatDoor
