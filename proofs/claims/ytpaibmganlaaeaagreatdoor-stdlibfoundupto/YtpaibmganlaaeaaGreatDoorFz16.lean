/- The document's Print of numbers, its fromText, fromTime and fromWhole, exactly; no statement of the seat is proved here. -/
import Derived.Test.YtpaibmganlaaeaaGreatDoorFz15
import Derived.Test.YtpaibmganlaaeaaGreatDoorFz13
namespace Go.Proofs.YtpaibmganlaaeaaGreatDoor
set_option linter.unusedVariables false
open Go.RowKit
section
variable (l kv b : Int) (w : World)
set_option maxRecDepth 100000 in
set_option maxHeartbeats 2000000 in
theorem fwx_text_neg (h0 : 9223372036854775808 ≤ b) (h1 : b < 18446744073709551616) (hk : 2 ≤ kv ∧ kv ≤ 5) (k9 : kv ≤ 9) (t : ByteArray) (ht : t.size ≤ 21) (hP : Pow w) (PR : Hid (∀ w, Pow w → Calls Tryz.prog 177 #[V kv b E0] w fun e w' => e = .returned (.string t) ∧ Below w.heap.size w w')) :
    Calls Tryz.prog 155 #[.int .u8 19, V kv b E0] w fun e w' => e = .returned (.tuple #[V 19 0 t, .int .i64 0]) ∧ Below w.heap.size w w' := by
  have hk2 : 0 ≤ kv ∧ kv < 256 := by omega
  have wb : wrap64 b = b - 18446744073709551616 := by unfold wrap64; omega
  have ng : IntKind.u64.wrap (-b) = 18446744073709551616 - b := by rw [IntKind.wrap_u64]; omega
  have HP : Hid _ := pow_below hP (((Below.refl w.heap.size w).alloc (Nat.le_refl _) (.cells #[.int .u8 kv, .int .u64 b, .string E0] 27)).alloc (by simp) (.cells #[.int .u8 0, .int .u64 0, .string ⟨#[]⟩] 27))
  clear hP
  go_enter Tryz.func155, Tryz.ntmps155
  go_wp2_with (first
    | (go_at_call 17; refine (SignedR_is kv _ true hk2 (by symm; simp; omega)).mono ?_; rintro e w2 ⟨rfl, rfl⟩)
    | (go_at_call 16; refine (WidthR_is 19 _ (by omega)).mono ?_; rintro e w2 ⟨rfl, rfl⟩)
    | (go_at_call 77; refine (RowR_is kv _ false hk2 (by symm; simp; omega)).mono ?_; rintro e w2 ⟨rfl, rfl⟩)
    | (go_at_call 177; refine (PR.out _ HP.out).mono ?_; rintro e w1 ⟨rfl, hb⟩; obtain ⟨z0, z1, q0, q1, q2, q3, q4, q5, q6, HB⟩ := step_box hb; clear hb)
    | (go_at_call 176; refine (TextR_of _ _ (by unfold maxLen; omega)).mono ?_; rw [textR, if_pos (by omega)]; rintro e w4 ⟨rfl, hb4⟩; obtain ⟨u0, u1, l0, l1, l2⟩ := step2 hb4 z0 z1))
  exact bodyPost_ret (v := .tuple #[V 19 0 t, .int .i64 0]) (by simp [results, Tryz.results155, go_sem, l1, q3, q4, q5]) rfl ⟨rfl, (((HB.trans (hb4.mono (Nat.le_of_lt z0))).setCell (by simp) _).setCell (by simp) _).setCell (by simp) _⟩
set_option maxRecDepth 100000 in
set_option maxHeartbeats 2000000 in
theorem fwx_tx_neg (h0 : 9223372036854775808 ≤ b) (h1 : b < 18446744073709551616) (hk : 2 ≤ kv ∧ kv ≤ 5) (d : 14 ≤ l ∧ l ≤ 17) (k5 : (kv == 5) = false) :
    Calls Tryz.prog 155 #[.int .u8 l, V kv b E0] w fun e w' => e = .returned (.tuple #[V 0 0 E0, .int .i64 8]) ∧ Below w.heap.size w w' := by
  have hk2 : 0 ≤ kv ∧ kv < 256 := by omega
  have wb : wrap64 b = b - 18446744073709551616 := by unfold wrap64; omega
  have ng : IntKind.u64.wrap (-b) = 18446744073709551616 - b := by rw [IntKind.wrap_u64]; omega
  have k1 : (l == 1) = false := by simp; omega
  have k18 : (l == 18) = false := by simp; omega
  have k19 : (l == 19) = false := by simp; omega
  have WR : Hid (∀ w, Calls Tryz.prog 16 #[.int .u8 l] w fun e w' => e = .returned (.int .i64 0) ∧ w' = w) := fun w => by
    have := WidthR_is l w (by omega)
    rwa [show widN l = 0 by unfold widN; rw [if_neg (by omega), if_neg (by omega), if_neg (by omega), if_neg (by omega)]] at this
  go_enter Tryz.func155, Tryz.ntmps155
  go_wp2_with (first
    | (go_at_call 17; refine (SignedR_is kv _ true hk2 (by symm; simp; omega)).mono ?_; rintro e w2 ⟨rfl, rfl⟩)
    | (go_at_call 16; refine (WR.out _).mono ?_; rintro e w2 ⟨rfl, rfl⟩)
    | (go_at_call 78; refine (TimeR_is l _ true (by omega) (by symm; simp; omega)).mono ?_; rintro e w2 ⟨rfl, rfl⟩))
  exact bodyPost_ret (v := .tuple #[V 0 0 E0, .int .i64 8]) (by simp [results, Tryz.results155, go_sem]) rfl ⟨rfl, by go_grown⟩
set_option maxRecDepth 100000 in
set_option maxHeartbeats 2000000 in
theorem fwx_text_sp (h0 : 0 ≤ b) (h1 : b < 9223372036854775808) (hk : 2 ≤ kv ∧ kv ≤ 5) (k9 : kv ≤ 9) (t : ByteArray) (ht : t.size ≤ 21) (hP : Pow w) (PR : Hid (∀ w, Pow w → Calls Tryz.prog 177 #[V kv b E0] w fun e w' => e = .returned (.string t) ∧ Below w.heap.size w w')) :
    Calls Tryz.prog 155 #[.int .u8 19, V kv b E0] w fun e w' => e = .returned (.tuple #[V 19 0 t, .int .i64 0]) ∧ Below w.heap.size w w' := by
  have hk2 : 0 ≤ kv ∧ kv < 256 := by omega
  have wb : wrap64 b = b := by unfold wrap64; omega
  have HP : Hid _ := pow_below hP (((Below.refl w.heap.size w).alloc (Nat.le_refl _) (.cells #[.int .u8 kv, .int .u64 b, .string E0] 27)).alloc (by simp) (.cells #[.int .u8 0, .int .u64 0, .string ⟨#[]⟩] 27))
  clear hP
  go_enter Tryz.func155, Tryz.ntmps155
  go_wp2_with (first
    | (go_at_call 17; refine (SignedR_is kv _ true hk2 (by symm; simp; omega)).mono ?_; rintro e w2 ⟨rfl, rfl⟩)
    | (go_at_call 16; refine (WidthR_is 19 _ (by omega)).mono ?_; rintro e w2 ⟨rfl, rfl⟩)
    | (go_at_call 77; refine (RowR_is kv _ false hk2 (by symm; simp; omega)).mono ?_; rintro e w2 ⟨rfl, rfl⟩)
    | (go_at_call 177; refine (PR.out _ HP.out).mono ?_; rintro e w1 ⟨rfl, hb⟩; obtain ⟨z0, z1, q0, q1, q2, q3, q4, q5, q6, HB⟩ := step_box hb; clear hb)
    | (go_at_call 176; refine (TextR_of _ _ (by unfold maxLen; omega)).mono ?_; rw [textR, if_pos (by omega)]; rintro e w4 ⟨rfl, hb4⟩; obtain ⟨u0, u1, l0, l1, l2⟩ := step2 hb4 z0 z1))
  exact bodyPost_ret (v := .tuple #[V 19 0 t, .int .i64 0]) (by simp [results, Tryz.results155, go_sem, l1, q3, q4, q5]) rfl ⟨rfl, (((HB.trans (hb4.mono (Nat.le_of_lt z0))).setCell (by simp) _).setCell (by simp) _).setCell (by simp) _⟩
set_option maxRecDepth 100000 in
set_option maxHeartbeats 2000000 in
theorem fwx_tx_sp (h0 : 0 ≤ b) (h1 : b < 9223372036854775808) (hk : 2 ≤ kv ∧ kv ≤ 5) (d : 14 ≤ l ∧ l ≤ 17) (k5 : (kv == 5) = false) :
    Calls Tryz.prog 155 #[.int .u8 l, V kv b E0] w fun e w' => e = .returned (.tuple #[V 0 0 E0, .int .i64 8]) ∧ Below w.heap.size w w' := by
  have hk2 : 0 ≤ kv ∧ kv < 256 := by omega
  have wb : wrap64 b = b := by unfold wrap64; omega
  have k1 : (l == 1) = false := by simp; omega
  have k18 : (l == 18) = false := by simp; omega
  have k19 : (l == 19) = false := by simp; omega
  have WR : Hid (∀ w, Calls Tryz.prog 16 #[.int .u8 l] w fun e w' => e = .returned (.int .i64 0) ∧ w' = w) := fun w => by
    have := WidthR_is l w (by omega)
    rwa [show widN l = 0 by unfold widN; rw [if_neg (by omega), if_neg (by omega), if_neg (by omega), if_neg (by omega)]] at this
  go_enter Tryz.func155, Tryz.ntmps155
  go_wp2_with (first
    | (go_at_call 17; refine (SignedR_is kv _ true hk2 (by symm; simp; omega)).mono ?_; rintro e w2 ⟨rfl, rfl⟩)
    | (go_at_call 16; refine (WR.out _).mono ?_; rintro e w2 ⟨rfl, rfl⟩)
    | (go_at_call 78; refine (TimeR_is l _ true (by omega) (by symm; simp; omega)).mono ?_; rintro e w2 ⟨rfl, rfl⟩))
  exact bodyPost_ret (v := .tuple #[V 0 0 E0, .int .i64 8]) (by simp [results, Tryz.results155, go_sem]) rfl ⟨rfl, by go_grown⟩
set_option maxRecDepth 100000 in
set_option maxHeartbeats 2000000 in
theorem fwx_text_us (h0 : 0 ≤ b) (h1 : b < 18446744073709551616) (hk : kv = 1 ∨ 6 ≤ kv ∧ kv ≤ 13) (k9 : kv ≤ 9) (t : ByteArray) (ht : t.size ≤ 21) (hP : Pow w) (PR : Hid (∀ w, Pow w → Calls Tryz.prog 177 #[V kv b E0] w fun e w' => e = .returned (.string t) ∧ Below w.heap.size w w')) :
    Calls Tryz.prog 155 #[.int .u8 19, V kv b E0] w fun e w' => e = .returned (.tuple #[V 19 0 t, .int .i64 0]) ∧ Below w.heap.size w w' := by
  have hk2 : 0 ≤ kv ∧ kv < 256 := by omega
  have HP : Hid _ := pow_below hP (((Below.refl w.heap.size w).alloc (Nat.le_refl _) (.cells #[.int .u8 kv, .int .u64 b, .string E0] 27)).alloc (by simp) (.cells #[.int .u8 0, .int .u64 0, .string ⟨#[]⟩] 27))
  clear hP
  go_enter Tryz.func155, Tryz.ntmps155
  go_wp2_with (first
    | (go_at_call 17; refine (SignedR_is kv _ false hk2 (by symm; simp; omega)).mono ?_; rintro e w2 ⟨rfl, rfl⟩)
    | (go_at_call 16; refine (WidthR_is 19 _ (by omega)).mono ?_; rintro e w2 ⟨rfl, rfl⟩)
    | (go_at_call 77; refine (RowR_is kv _ false hk2 (by symm; simp; omega)).mono ?_; rintro e w2 ⟨rfl, rfl⟩)
    | (go_at_call 177; refine (PR.out _ HP.out).mono ?_; rintro e w1 ⟨rfl, hb⟩; obtain ⟨z0, z1, q0, q1, q2, q3, q4, q5, q6, HB⟩ := step_box hb; clear hb)
    | (go_at_call 176; refine (TextR_of _ _ (by unfold maxLen; omega)).mono ?_; rw [textR, if_pos (by omega)]; rintro e w4 ⟨rfl, hb4⟩; obtain ⟨u0, u1, l0, l1, l2⟩ := step2 hb4 z0 z1))
  exact bodyPost_ret (v := .tuple #[V 19 0 t, .int .i64 0]) (by simp [results, Tryz.results155, go_sem, l1, q3, q4, q5]) rfl ⟨rfl, (((HB.trans (hb4.mono (Nat.le_of_lt z0))).setCell (by simp) _).setCell (by simp) _).setCell (by simp) _⟩
set_option maxRecDepth 100000 in
set_option maxHeartbeats 2000000 in
theorem fwx_tx_us (h0 : 0 ≤ b) (h1 : b < 18446744073709551616) (hk : kv = 1 ∨ 6 ≤ kv ∧ kv ≤ 13) (d : 14 ≤ l ∧ l ≤ 17) (k5 : (kv == 5) = false) :
    Calls Tryz.prog 155 #[.int .u8 l, V kv b E0] w fun e w' => e = .returned (.tuple #[V 0 0 E0, .int .i64 8]) ∧ Below w.heap.size w w' := by
  have hk2 : 0 ≤ kv ∧ kv < 256 := by omega
  have k1 : (l == 1) = false := by simp; omega
  have k18 : (l == 18) = false := by simp; omega
  have k19 : (l == 19) = false := by simp; omega
  have WR : Hid (∀ w, Calls Tryz.prog 16 #[.int .u8 l] w fun e w' => e = .returned (.int .i64 0) ∧ w' = w) := fun w => by
    have := WidthR_is l w (by omega)
    rwa [show widN l = 0 by unfold widN; rw [if_neg (by omega), if_neg (by omega), if_neg (by omega), if_neg (by omega)]] at this
  go_enter Tryz.func155, Tryz.ntmps155
  go_wp2_with (first
    | (go_at_call 17; refine (SignedR_is kv _ false hk2 (by symm; simp; omega)).mono ?_; rintro e w2 ⟨rfl, rfl⟩)
    | (go_at_call 16; refine (WR.out _).mono ?_; rintro e w2 ⟨rfl, rfl⟩)
    | (go_at_call 78; refine (TimeR_is l _ true (by omega) (by symm; simp; omega)).mono ?_; rintro e w2 ⟨rfl, rfl⟩))
  exact bodyPost_ret (v := .tuple #[V 0 0 E0, .int .i64 8]) (by simp [results, Tryz.results155, go_sem]) rfl ⟨rfl, by go_grown⟩
set_option maxRecDepth 100000 in
set_option maxHeartbeats 2000000 in
theorem fwx_row (h0 : 0 ≤ b) (h1 : b < 18446744073709551616) (hk : 10 ≤ kv ∧ kv ≤ 13) :
    Calls Tryz.prog 155 #[.int .u8 19, V kv b E0] w fun e w' => e = .returned (.tuple #[V 0 0 E0, .int .i64 8]) ∧ Below w.heap.size w w' := by
  have hk2 : 0 ≤ kv ∧ kv < 256 := by omega
  go_enter Tryz.func155, Tryz.ntmps155
  go_wp2_with (first
    | (go_at_call 17; refine (SignedR_is kv _ false hk2 (by symm; simp; omega)).mono ?_; rintro e w2 ⟨rfl, rfl⟩)
    | (go_at_call 16; refine (WidthR_is 19 _ (by omega)).mono ?_; rintro e w2 ⟨rfl, rfl⟩)
    | (go_at_call 78; refine (TimeR_is 19 _ false (by omega) (by decide)).mono ?_; rintro e w2 ⟨rfl, rfl⟩)
    | (go_at_call 77; refine (RowR_is kv _ true hk2 (by symm; simp; omega)).mono ?_; rintro e w2 ⟨rfl, rfl⟩))
  exact bodyPost_ret (v := .tuple #[V 0 0 E0, .int .i64 8]) (by simp [results, Tryz.results155, go_sem]) rfl ⟨rfl, by go_grown⟩
set_option maxRecDepth 100000 in
set_option maxHeartbeats 2000000 in
theorem fwx_t14 (h0 : 9223372036854775808 ≤ b) (h1 : b < 18446744073709551616) :
    Calls Tryz.prog 155 #[.int .u8 14, V 5 b E0] w fun e w' => e = .returned (RV (mayW 14 b) 14 b 7) ∧ Below w.heap.size w w' := by
  have wb : wrap64 b = b - 18446744073709551616 := by unfold wrap64; omega
  have ng : IntKind.u64.wrap (-b) = 18446744073709551616 - b := by rw [IntKind.wrap_u64]; omega
  obtain ⟨k', b', g, eq, hg⟩ := rv_form (mayW 14 b) 14 b
  have MD : Hid (∀ w, Calls Tryz.prog 174 #[.int .u8 14, .int .u64 b, .int .i64 7] w fun e w' => e = .returned (.tuple #[V k' b' E0, .int .i64 g]) ∧ Below w.heap.size w w') := fun w => by
    have := made_of 14 b 7 w (by omega) (by omega) (by omega)
    rwa [eq] at this
  rw [eq]
  clear eq hg
  have WR : Hid (∀ w, Calls Tryz.prog 16 #[.int .u8 14] w fun e w' => e = .returned (.int .i64 0) ∧ w' = w) := fun w => by
    have := WidthR_is 14 w (by omega)
    rwa [show widN 14 = 0 by unfold widN; rw [if_neg (by omega), if_neg (by omega), if_neg (by omega), if_neg (by omega)]] at this
  go_enter Tryz.func155, Tryz.ntmps155
  go_wp2_with (first
    | (go_at_call 17; refine (SignedR_is 5 _ true (by omega) (by decide)).mono ?_; rintro e w2 ⟨rfl, rfl⟩)
    | (go_at_call 16; refine (WR.out _).mono ?_; rintro e w2 ⟨rfl, rfl⟩)
    | (go_at_call 78; refine (TimeR_is 14 _ true (by omega) (by first | decide | (symm; simp; omega))).mono ?_; rintro e w2 ⟨rfl, rfl⟩)
    | (go_at_call 174; refine (MD.out _).mono ?_; rintro e w1 ⟨rfl, hb⟩; obtain ⟨z0, z1, q0, q1, q2, q3, q4, q5, q6, HB⟩ := step_box hb; clear hb))
  exact bodyPost_ret (v := .tuple #[V k' b' E0, .int .i64 g]) (by simp [results, Tryz.results155, go_sem, q3, q4, q5]) rfl ⟨rfl, ((HB.setCell (by simp) _).setCell (by simp) _).setCell (by simp) _⟩
set_option maxRecDepth 100000 in
set_option maxHeartbeats 2000000 in
theorem fwx_tneg (h0 : 9223372036854775808 ≤ b) (h1 : b < 18446744073709551616) (d : 15 ≤ l ∧ l ≤ 17) :
    Calls Tryz.prog 155 #[.int .u8 l, V 5 b E0] w fun e w' => e = .returned (.tuple #[V 0 0 E0, .int .i64 7]) ∧ Below w.heap.size w w' := by
  have wb : wrap64 b = b - 18446744073709551616 := by unfold wrap64; omega
  have ng : IntKind.u64.wrap (-b) = 18446744073709551616 - b := by rw [IntKind.wrap_u64]; omega
  have k1 : (l == 1) = false := by simp; omega
  have k18 : (l == 18) = false := by simp; omega
  have k19 : (l == 19) = false := by simp; omega
  have k14 : (l == 14) = false := by simp; omega
  have WR : Hid (∀ w, Calls Tryz.prog 16 #[.int .u8 l] w fun e w' => e = .returned (.int .i64 0) ∧ w' = w) := fun w => by
    have := WidthR_is l w (by omega)
    rwa [show widN l = 0 by unfold widN; rw [if_neg (by omega), if_neg (by omega), if_neg (by omega), if_neg (by omega)]] at this
  go_enter Tryz.func155, Tryz.ntmps155
  go_wp2_with (first
    | (go_at_call 17; refine (SignedR_is 5 _ true (by omega) (by decide)).mono ?_; rintro e w2 ⟨rfl, rfl⟩)
    | (go_at_call 16; refine (WR.out _).mono ?_; rintro e w2 ⟨rfl, rfl⟩)
    | (go_at_call 78; refine (TimeR_is l _ true (by omega) (by first | decide | (symm; simp; omega))).mono ?_; rintro e w2 ⟨rfl, rfl⟩))
  exact bodyPost_ret (v := .tuple #[V 0 0 E0, .int .i64 7]) (by simp [results, Tryz.results155, go_sem]) rfl ⟨rfl, by go_grown⟩
set_option maxRecDepth 100000 in
set_option maxHeartbeats 2000000 in
theorem fwx_tpos (h0 : 0 ≤ b) (h1 : b < 9223372036854775808) (d : 14 ≤ l ∧ l ≤ 17) :
    Calls Tryz.prog 155 #[.int .u8 l, V 5 b E0] w fun e w' => e = .returned (RV (mayW l b) l b 7) ∧ Below w.heap.size w w' := by
  have wb : wrap64 b = b := by unfold wrap64; omega
  have k1 : (l == 1) = false := by simp; omega
  have k18 : (l == 18) = false := by simp; omega
  have k19 : (l == 19) = false := by simp; omega
  obtain ⟨k', b', g, eq, hg⟩ := rv_form (mayW l b) l b
  have MD : Hid (∀ w, Calls Tryz.prog 174 #[.int .u8 l, .int .u64 b, .int .i64 7] w fun e w' => e = .returned (.tuple #[V k' b' E0, .int .i64 g]) ∧ Below w.heap.size w w') := fun w => by
    have := made_of l b 7 w (by omega) (by omega) (by omega)
    rwa [eq] at this
  rw [eq]
  clear eq hg
  have WR : Hid (∀ w, Calls Tryz.prog 16 #[.int .u8 l] w fun e w' => e = .returned (.int .i64 0) ∧ w' = w) := fun w => by
    have := WidthR_is l w (by omega)
    rwa [show widN l = 0 by unfold widN; rw [if_neg (by omega), if_neg (by omega), if_neg (by omega), if_neg (by omega)]] at this
  go_enter Tryz.func155, Tryz.ntmps155
  go_wp2_with (first
    | (go_at_call 17; refine (SignedR_is 5 _ true (by omega) (by decide)).mono ?_; rintro e w2 ⟨rfl, rfl⟩)
    | (go_at_call 16; refine (WR.out _).mono ?_; rintro e w2 ⟨rfl, rfl⟩)
    | (go_at_call 78; refine (TimeR_is l _ true (by omega) (by first | decide | (symm; simp; omega))).mono ?_; rintro e w2 ⟨rfl, rfl⟩)
    | (go_at_call 174; refine (MD.out _).mono ?_; rintro e w1 ⟨rfl, hb⟩; obtain ⟨z0, z1, q0, q1, q2, q3, q4, q5, q6, HB⟩ := step_box hb; clear hb))
  exact bodyPost_ret (v := .tuple #[V k' b' E0, .int .i64 g]) (by simp [results, Tryz.results155, go_sem, q3, q4, q5]) rfl ⟨rfl, ((HB.setCell (by simp) _).setCell (by simp) _).setCell (by simp) _⟩
end
end Go.Proofs.YtpaibmganlaaeaaGreatDoor
namespace Go.Proofs.YtpaibmganlaaeaaGreatDoor
set_option linter.unusedVariables false
open Go.RowKit
theorem dgO_bd (l : List UInt8) (u : Int) (h : dgO l = some u) : 0 ≤ u ∧ u < 18446744073709551616 := by
  unfold dgO at h
  by_cases c : l = [] ∨ 20 < l.length ∨ (1 < l.length ∧ l.head? = some 48)
  · rw [if_pos c] at h; cases h
  · rw [if_neg c] at h
    have b := rdL_bd _ 0 u (by omega) (by omega) h
    simp only [Int.zero_mul] at b
    omega
section
variable (k : Int) (s : ByteArray) (w : World)
set_option maxRecDepth 100000 in
set_option maxHeartbeats 2000000 in
theorem fromTextR_go (hk : 2 ≤ k ∧ k ≤ 9) (p : Bool) (d : ByteArray) (way : (p = false ∧ d = s ∧ (s.size ≤ 1 ∨ ∃ h : 1 < s.size, ¬ (s[0].toNat : Int) = 45)) ∨ (p = true ∧ s.extract 1 s.size = d ∧ ∃ h : 1 < s.size, (s[0].toNat : Int) = 45)) (hd : d.size ≤ maxLen) (hs : s.size ≤ maxLen) :
    Calls Tryz.prog 153 #[.int .u8 k, .string s] w fun e w' => e = .returned (match dgO d.data.toList with | none => .tuple #[V 0 0 E0, .int .i64 7] | some u => if p = true ∧ u = 0 then .tuple #[V 0 0 E0, .int .i64 7] else szV k (if p then -u else u)) ∧ Below w.heap.size w w' := by
  have hm : s.size ≤ 9223372036854775807 := hs
  have hk' : 0 ≤ k ∧ k < 256 := by omega
  have k1 : (k == 1) = false := by simp; omega
  have D0 : Hid _ := fun w => digitsR1_of d w hd
  have ub := dgO_bd d.data.toList
  cases o : dgO d.data.toList with
  | none =>
    rw [o] at D0
    have D : Hid (∀ w, Calls Tryz.prog 173 #[.string d] w fun e w' => e = .returned (.tuple #[.int .u64 0, .bool false]) ∧ w' = w) := D0.out
    clear D0 ub o
    simp only
    rcases way with ⟨rfl, rfl, s1 | ⟨s1, s2⟩⟩ | ⟨rfl, ed, s1, s2⟩
    · have s1' : ¬ (1 : Int) < d.size := by omega
      go_enter Tryz.func153, Tryz.ntmps153
      go_wp2_with (first
        | (go_at_call 32; refine (IntegerR_is k _ true hk' (by symm; simp; omega)).mono ?_; rintro e w1 ⟨rfl, rfl⟩)
        | (go_at_call 173; refine (D.out _).mono ?_; rintro e w2 ⟨rfl, rfl⟩))
      exact bodyPost_ret (v := .tuple #[V 0 0 E0, .int .i64 7]) (by simp [results, Tryz.results153, go_sem]) rfl ⟨rfl, by go_grown⟩
    · have s1' : (1 : Int) < d.size := by omega
      have s2' : ((d[0].toNat : Int) == 45) = false := by simpa using s2
      go_enter Tryz.func153, Tryz.ntmps153
      go_wp2_with (first
        | (go_at_call 32; refine (IntegerR_is k _ true hk' (by symm; simp; omega)).mono ?_; rintro e w1 ⟨rfl, rfl⟩)
        | (go_at_call 173; refine (D.out _).mono ?_; rintro e w2 ⟨rfl, rfl⟩))
      exact bodyPost_ret (v := .tuple #[V 0 0 E0, .int .i64 7]) (by simp [results, Tryz.results153, go_sem]) rfl ⟨rfl, by go_grown⟩
    · have s1' : (1 : Int) < s.size := by omega
      have ED : Hid (s.extract 1 s.size = d) := ed
      clear ed
      go_enter Tryz.func153, Tryz.ntmps153
      go_wp2_with (first
        | (go_at_call 32; refine (IntegerR_is k _ true hk' (by symm; simp; omega)).mono ?_; rintro e w1 ⟨rfl, rfl⟩)
        | (go_at_call 173; rw [ED.out]; refine (D.out _).mono ?_; rintro e w2 ⟨rfl, rfl⟩))
      exact bodyPost_ret (v := .tuple #[V 0 0 E0, .int .i64 7]) (by simp [results, Tryz.results153, go_sem]) rfl ⟨rfl, by go_grown⟩
  | some u =>
    rw [o] at D0
    obtain ⟨u0, u1⟩ := ub u o
    have D : Hid (∀ w, Calls Tryz.prog 173 #[.string d] w fun e w' => e = .returned (.tuple #[.int .u64 u, .bool true]) ∧ w' = w) := D0.out
    clear D0 ub o
    simp only
    have form : ∃ k' b' g, szV k (if p then -u else u) = .tuple #[V k' b' E0, .int .i64 g] := by
      generalize (if p then -u else u) = N
      unfold szV
      cases fitOk k N with
      | true => exact ⟨_, _, _, rfl⟩
      | false => exact ⟨_, _, _, rfl⟩
    obtain ⟨k', b', g, eq⟩ := form
    rcases way with ⟨rfl, rfl, s1⟩ | ⟨rfl, ed, s1, s2⟩
    · have SZ0 : Hid _ := fun w => sizedR_pos k w u (by omega) u0 u1
      simp only [Bool.false_eq_true, if_false] at eq ⊢
      rw [eq] at SZ0
      rw [if_neg (fun h => by cases h.1), eq]
      have SZ : Hid (∀ w, Calls Tryz.prog 172 #[.int .u8 k, .int .u64 u, .bool false] w fun e w' => e = .returned (.tuple #[V k' b' E0, .int .i64 g]) ∧ Below w.heap.size w w') := SZ0.out
      clear SZ0 eq
      rcases s1 with s1 | ⟨s1, s2⟩
      · have s1' : ¬ (1 : Int) < d.size := by omega
        go_enter Tryz.func153, Tryz.ntmps153
        go_wp2_with (first
          | (go_at_call 32; refine (IntegerR_is k _ true hk' (by symm; simp; omega)).mono ?_; rintro e w1 ⟨rfl, rfl⟩)
          | (go_at_call 173; refine (D.out _).mono ?_; rintro e w2 ⟨rfl, rfl⟩)
          | (go_at_call 172; refine (SZ.out _).mono ?_; rintro e w4 ⟨rfl, hb4⟩; obtain ⟨y0, p0, p1, p2, p6, PB⟩ := boxD hb4; clear hb4))
        exact bodyPost_ret (v := .tuple #[V k' b' E0, .int .i64 g]) (by simp [results, Tryz.results153, go_sem, p0, p1, p2]) rfl ⟨rfl, ((PB.setCell (by simp) _).setCell (by simp) _).setCell (by simp) _⟩
      · have s1' : (1 : Int) < d.size := by omega
        have s2' : ((d[0].toNat : Int) == 45) = false := by simpa using s2
        go_enter Tryz.func153, Tryz.ntmps153
        go_wp2_with (first
          | (go_at_call 32; refine (IntegerR_is k _ true hk' (by symm; simp; omega)).mono ?_; rintro e w1 ⟨rfl, rfl⟩)
          | (go_at_call 173; refine (D.out _).mono ?_; rintro e w2 ⟨rfl, rfl⟩)
          | (go_at_call 172; refine (SZ.out _).mono ?_; rintro e w4 ⟨rfl, hb4⟩; obtain ⟨y0, p0, p1, p2, p6, PB⟩ := boxD hb4; clear hb4))
        exact bodyPost_ret (v := .tuple #[V k' b' E0, .int .i64 g]) (by simp [results, Tryz.results153, go_sem, p0, p1, p2]) rfl ⟨rfl, ((PB.setCell (by simp) _).setCell (by simp) _).setCell (by simp) _⟩
    · have s1' : (1 : Int) < s.size := by omega
      have ED : Hid (s.extract 1 s.size = d) := ed
      clear ed
      simp only [if_true] at eq ⊢
      by_cases z : u = 0
      · subst z
        rw [if_pos (by simp)]
        clear eq
        go_enter Tryz.func153, Tryz.ntmps153
        go_wp2_with (first
          | (go_at_call 32; refine (IntegerR_is k _ true hk' (by symm; simp; omega)).mono ?_; rintro e w1 ⟨rfl, rfl⟩)
          | (go_at_call 173; rw [ED.out]; refine (D.out _).mono ?_; rintro e w2 ⟨rfl, rfl⟩))
        exact bodyPost_ret (v := .tuple #[V 0 0 E0, .int .i64 7]) (by simp [results, Tryz.results153, go_sem]) rfl ⟨rfl, by go_grown⟩
      · have SZ0 : Hid _ := fun w => sizedR_neg k w u (by omega) (by omega) u1
        rw [eq] at SZ0
        rw [if_neg (fun h => z h.2), eq]
        have SZ : Hid (∀ w, Calls Tryz.prog 172 #[.int .u8 k, .int .u64 u, .bool true] w fun e w' => e = .returned (.tuple #[V k' b' E0, .int .i64 g]) ∧ Below w.heap.size w w') := SZ0.out
        have z' : (u == 0) = false := by simpa using z
        clear SZ0 eq
        go_enter Tryz.func153, Tryz.ntmps153
        go_wp2_with (first
          | (go_at_call 32; refine (IntegerR_is k _ true hk' (by symm; simp; omega)).mono ?_; rintro e w1 ⟨rfl, rfl⟩)
          | (go_at_call 173; rw [ED.out]; refine (D.out _).mono ?_; rintro e w2 ⟨rfl, rfl⟩)
          | (go_at_call 172; refine (SZ.out _).mono ?_; rintro e w4 ⟨rfl, hb4⟩; obtain ⟨y0, p0, p1, p2, p6, PB⟩ := boxD hb4; clear hb4))
        exact bodyPost_ret (v := .tuple #[V k' b' E0, .int .i64 g]) (by simp [results, Tryz.results153, go_sem, p0, p1, p2]) rfl ⟨rfl, ((PB.setCell (by simp) _).setCell (by simp) _).setCell (by simp) _⟩
end
end Go.Proofs.YtpaibmganlaaeaaGreatDoor
namespace Go.Proofs.YtpaibmganlaaeaaGreatDoor
set_option linter.unusedVariables false
open Go.RowKit
theorem fromTextR (k : Int) (s : ByteArray) (w : World) (hk : 2 ≤ k ∧ k ≤ 9) (hs : s.size ≤ maxLen) : Calls Tryz.prog 153 #[.int .u8 k, .string s] w fun e w' => e = .returned (txV k (txC s.data.toList)) ∧ Below w.heap.size w w' := by
  rw [tx_same]
  have sl : s.data.toList.length = s.size := by simp
  have hd : ∀ h : 0 < s.size, s.data.toList.head? = some s[0] := fun h => by
    rw [List.head?_eq_getElem?, List.getElem?_eq_getElem (by omega)]
    rfl
  unfold txR
  by_cases P : 1 < s.data.toList.length ∧ s.data.toList.head? = some 45
  · have s1 : 1 < s.size := by omega
    have s2 : (s[0].toNat : Int) = 45 := by
      have := P.2
      rw [hd (by omega)] at this
      rw [Option.some.inj this]
      rfl
    have el : (s.extract 1 s.size).data.toList = s.data.toList.tail := by
      rw [ByteArray.data_extract]
      simp
      exact List.take_of_length_le (by rw [List.length_tail]; simp)
    have := fromTextR_go k s w hk true (s.extract 1 s.size) (Or.inr ⟨rfl, rfl, s1, s2⟩) (by rw [ByteArray.size_extract]; omega) hs
    rw [el] at this
    rw [if_pos P]
    cases o : dgO s.data.toList.tail with
    | none => rw [o] at this; exact this
    | some u =>
      rw [o] at this
      simp only [true_and, if_true] at this
      simp only [if_pos P]
      by_cases z : u = 0
      · rw [if_pos z] at this
        rw [if_pos ⟨P, z⟩]
        exact this
      · rw [if_neg z] at this
        rw [if_neg (fun h => z h.2)]
        exact this
  · have way : s.size ≤ 1 ∨ ∃ h : 1 < s.size, ¬ (s[0].toNat : Int) = 45 := by
      by_cases s1 : 1 < s.size
      · right
        refine ⟨s1, fun g => P ⟨by omega, ?_⟩⟩
        rw [hd (by omega)]
        congr 1
        exact UInt8.toNat_inj.mp (by show s[0].toNat = 45; omega)
      · left; omega
    have := fromTextR_go k s w hk false s (Or.inl ⟨rfl, rfl, way⟩) hs hs
    rw [if_neg P]
    cases o : dgO s.data.toList with
    | none => rw [o] at this; exact this
    | some u =>
      rw [o] at this
      simp only [Bool.false_eq_true, false_and, if_false] at this
      simp only [if_neg P]
      rw [if_neg (fun h => P h.1)]
      exact this
end Go.Proofs.YtpaibmganlaaeaaGreatDoor
namespace Go.Proofs.YtpaibmganlaaeaaGreatDoor
set_option linter.unusedVariables false
open Go.RowKit
theorem itoa_num (n : Int) : (⟨(Lib.itoa n).toArray⟩ : ByteArray) = numS n := by
  unfold Lib.itoa numS decS
  split
  · apply ByteArray.ext; rw [ByteArray.data_append]; simp
  · rw [show n.toNat = n.natAbs by omega]
section
variable (l k kv b : Int) (w : World)
set_option maxRecDepth 100000 in
set_option maxHeartbeats 2000000 in
theorem PrintR_is (hP : Pow w) (h0 : 0 ≤ b) (h1 : b < 18446744073709551616) (hk : 2 ≤ k ∧ k ≤ 9) (m : may3 k b E0 = true) :
    Calls Tryz.prog 177 #[V k b E0] w fun e w' => e = .returned (.string (numS (num k b))) ∧ Below w.heap.size w w' := by
  have M : Hid (∀ w, Calls Tryz.prog 4 #[V k b E0] w fun e w' => e = .returned (.bool true) ∧ Below w.heap.size w w') := fun w => by
    have := MayR_of k b E0 w h0 h1 (by omega) (Nat.zero_le _)
    rwa [m] at this
  clear m
  have f1 : (k == 1) = false := by simp; omega
  have f19 : (k == 19) = false := by simp; omega
  have f18 : (k == 18) = false := by simp; omega
  have HP : Hid (Pow w) := hP
  clear hP
  go_enter Tryz.func177, Tryz.ntmps177
  go_wp2_with fail
  refine (M.out _).mono ?_
  rintro e w1 ⟨rfl, hb⟩
  have B : Hid (Below w.heap.size w w1) := ((Below.refl _ _).alloc (Nat.le_refl _) _).trans (hb.mono (by simp))
  have A0 : Hid _ := (Lies.new w k b E0 _).next hb
  have P1 : Hid (Pow w1) := pow_below HP.out B.out
  obtain ⟨l0, c00, c01, c02⟩ := A0.out
  clear hb
  by_cases u : 6 ≤ k
  · have F : Hid (∀ w, Pow w → Calls Tryz.prog 187 #[.int .u64 b, .int .i64 10] w fun e w' => e = .returned (.string (decS b.toNat)) ∧ Below w.heap.size w w') := fun w h => by
      have := FormatUint_of b.toNat (by omega) w h
      rwa [show ((b.toNat : Nat) : Int) = b by omega] at this
    have en : numS (num k b) = decS b.toNat := by
      rw [num_u (by omega)]
      unfold numS
      rw [if_neg (by omega), show b.natAbs = b.toNat by omega]
    have EN : Hid (numS (num k b) = decS b.toNat) := en
    clear en
    generalize decS b.toNat = t at *
    go_wp2_with (first
      | (go_at_call 77; refine (RowR_is k _ false (by omega) (by symm; simp; omega)).mono ?_; rintro e w2 ⟨rfl, rfl⟩)
      | (go_at_call 79; refine (UnsignedR_is k _ true (by omega) (by symm; simp; omega)).mono ?_; rintro e w2 ⟨rfl, rfl⟩)
      | (go_at_call 187; refine (F.out _ P1.out).mono ?_; rintro e w4 ⟨rfl, hb4⟩))
    go_ret
    exact ⟨by rw [EN.out]; rfl, B.out.trans (hb4.mono B.out.size)⟩
  · have I : Hid (∀ w, Pow w → Calls Tryz.prog 188 #[.int .i64 (wrap64 b)] w fun e w' => e = .returned (.string ⟨(Lib.itoa (wrap64 b)).toArray⟩) ∧ Below w.heap.size w w') := fun w h => by
      refine (Tryz.strconv_Itoa (wrap64 b) (by unfold wrap64; omega) (by unfold wrap64; omega) w h).mono ?_
      rintro e w' ⟨rfl, k, os, rfl⟩
      exact ⟨rfl, grow_below _ _ _⟩
    have en : numS (num k b) = ⟨(Lib.itoa (wrap64 b)).toArray⟩ := by rw [num_s (by omega), itoa_num]
    have EN : Hid (numS (num k b) = ⟨(Lib.itoa (wrap64 b)).toArray⟩) := en
    clear en
    generalize (⟨(Lib.itoa (wrap64 b)).toArray⟩ : ByteArray) = t at *
    go_wp2_with (first
      | (go_at_call 77; refine (RowR_is k _ false (by omega) (by symm; simp; omega)).mono ?_; rintro e w2 ⟨rfl, rfl⟩)
      | (go_at_call 79; refine (UnsignedR_is k _ false (by omega) (by symm; simp; omega)).mono ?_; rintro e w2 ⟨rfl, rfl⟩)
      | (go_at_call 188; refine (I.out _ P1.out).mono ?_; rintro e w4 ⟨rfl, hb4⟩))
    go_ret
    exact ⟨by rw [EN.out]; rfl, B.out.trans (hb4.mono B.out.size)⟩
set_option maxRecDepth 100000 in
set_option maxHeartbeats 2000000 in
theorem PrintR_1 (s : ByteArray) (M : Hid (∀ w, Calls Tryz.prog 4 #[V 1 b s] w fun e w' => e = .returned (.bool true) ∧ Below w.heap.size w w')) : Calls Tryz.prog 177 #[V 1 b s] w fun e w' => e = .returned (.string (tfS b)) ∧ Below w.heap.size w w' := by
  unfold tfS
  by_cases b1 : b = 1
  · subst b1
    rw [if_pos rfl]
    go_enter Tryz.func177, Tryz.ntmps177
    go_wp2_with fail
    refine (M.out _).mono ?_
    rintro e w1 ⟨rfl, hb⟩
    have B : Hid (Below w.heap.size w w1) := ((Below.refl _ _).alloc (Nat.le_refl _) _).trans (hb.mono (by simp))
    obtain ⟨l0, c00, c01, c02⟩ := (Lies.new w 1 1 s _).next hb
    clear hb
    go_wp2
    go_ret
    exact ⟨rfl, B.out⟩
  · rw [if_neg b1]
    have f1 : (b == 1) = false := by simpa using b1
    go_enter Tryz.func177, Tryz.ntmps177
    go_wp2_with fail
    refine (M.out _).mono ?_
    rintro e w1 ⟨rfl, hb⟩
    have B : Hid (Below w.heap.size w w1) := ((Below.refl _ _).alloc (Nat.le_refl _) _).trans (hb.mono (by simp))
    obtain ⟨l0, c00, c01, c02⟩ := (Lies.new w 1 b s _).next hb
    clear hb
    go_wp2
    go_ret
    exact ⟨rfl, B.out⟩

set_option maxRecDepth 100000 in
set_option maxHeartbeats 1000000 in
theorem ftR_1 (s : ByteArray) : Calls Tryz.prog 153 #[.int .u8 1, .string s] w fun e w' => e = .returned (ftB s) ∧ Below w.heap.size w w' := by
  unfold ftB
  cases c : (s.toList == [84, 82, 85, 69])
  · cases c2 : (s.toList == [70, 65, 76, 83, 69])
    · go_enter Tryz.func153, Tryz.ntmps153
      go_wp2
      exact bodyPost_ret (v := .tuple #[V 0 0 E0, .int .i64 7]) (by simp [results, Tryz.results153, go_sem]) rfl ⟨rfl, by go_grown⟩
    · go_enter Tryz.func153, Tryz.ntmps153
      go_wp2_with (go_at_call 170; refine (BoolR_of _ _).mono ?_; rintro e w1 ⟨rfl, hb⟩; obtain ⟨y0, p0, p1, p2, p6, PB⟩ := boxD hb; clear hb)
      exact bodyPost_ret (v := .tuple #[V 1 (tb false) E0, .int .i64 0]) (by simp [results, Tryz.results153, go_sem, p0, p1, p2]) rfl ⟨rfl, ((PB.setCell (by simp) _).setCell (by simp) _).setCell (by simp) _⟩
  · go_enter Tryz.func153, Tryz.ntmps153
    go_wp2_with (go_at_call 170; refine (BoolR_of _ _).mono ?_; rintro e w1 ⟨rfl, hb⟩; obtain ⟨y0, p0, p1, p2, p6, PB⟩ := boxD hb; clear hb)
    exact bodyPost_ret (v := .tuple #[V 1 (tb true) E0, .int .i64 0]) (by simp [results, Tryz.results153, go_sem, p0, p1, p2]) rfl ⟨rfl, ((PB.setCell (by simp) _).setCell (by simp) _).setCell (by simp) _⟩
set_option maxRecDepth 100000 in
set_option maxHeartbeats 1000000 in
theorem ftR_8 (s : ByteArray) (hk : 0 ≤ k ∧ k < 256) (d : 10 ≤ k) : Calls Tryz.prog 153 #[.int .u8 k, .string s] w fun e w' => e = .returned (.tuple #[V 0 0 E0, .int .i64 8]) ∧ Below w.heap.size w w' := by
  have k1 : (k == 1) = false := by simp; omega
  go_enter Tryz.func153, Tryz.ntmps153
  go_wp2_with (go_at_call 32; refine (IntegerR_is k _ false hk (by symm; simp; omega)).mono ?_; rintro e w1 ⟨rfl, rfl⟩)
  exact bodyPost_ret (v := .tuple #[V 0 0 E0, .int .i64 8]) (by simp [results, Tryz.results153, go_sem]) rfl ⟨rfl, by go_grown⟩
theorem ftR_x (s : ByteArray) (hk : 1 ≤ k ∧ k < 256) (hs : s.size ≤ maxLen) : Calls Tryz.prog 153 #[.int .u8 k, .string s] w fun e w' => e = .returned (ftX k s) ∧ Below w.heap.size w w' := by
  unfold ftX
  by_cases a : k = 1
  · subst a
    rw [if_pos rfl]
    exact ftR_1 w s
  · rw [if_neg a]
    by_cases c : 2 ≤ k ∧ k ≤ 9
    · rw [if_pos c]
      exact fromTextR k s w c hs
    · rw [if_neg c]
      exact ftR_8 k w s (by omega) (by omega)
set_option maxRecDepth 100000 in
set_option maxHeartbeats 1000000 in
theorem fmR_5 (s : ByteArray) (h0 : 0 ≤ b) (h1 : b < 18446744073709551616) : Calls Tryz.prog 154 #[.int .u8 5, V kv b s] w fun e w' => e = .returned (RV (mayW 5 b) 5 b 7) ∧ Below w.heap.size w w' := by
  obtain ⟨k', b', g, eq, hg⟩ := rv_form (mayW 5 b) 5 b
  have MD : Hid (∀ w, Calls Tryz.prog 174 #[.int .u8 5, .int .u64 b, .int .i64 7] w fun e w' => e = .returned (.tuple #[V k' b' E0, .int .i64 g]) ∧ Below w.heap.size w w') := fun w => by
    have := made_of 5 b 7 w (by omega) (by omega) (by omega)
    rwa [eq] at this
  rw [eq]
  clear eq hg
  go_enter Tryz.func154, Tryz.ntmps154
  go_wp2_with (go_at_call 174; refine (MD.out _).mono ?_; rintro e w1 ⟨rfl, hb⟩; obtain ⟨z0, z1, q0, q1, q2, q3, q4, q5, q6, HB⟩ := step_box hb; clear hb)
  exact bodyPost_ret (v := .tuple #[V k' b' E0, .int .i64 g]) (by simp [results, Tryz.results154, go_sem, q3, q4, q5]) rfl ⟨rfl, ((HB.setCell (by simp) _).setCell (by simp) _).setCell (by simp) _⟩
set_option maxRecDepth 100000 in
set_option maxHeartbeats 1000000 in
theorem fmR_d (s : ByteArray) (c : Int) (hc : l = 15 ∧ c = b - b % 86400000000000 ∨ l = 16 ∧ c = b % 86400000000000) (h0 : 0 ≤ b) (h1 : b < 7258118400000000000) : Calls Tryz.prog 154 #[.int .u8 l, V 17 b s] w fun e w' => e = .returned (.tuple #[V l c E0, .int .i64 0]) ∧ Below w.heap.size w w' := by
  have wb : wrap64 b = b := by unfold wrap64; omega
  have my : mayW l c = true := by
    rcases hc with ⟨rfl, rfl⟩ | ⟨rfl, rfl⟩ <;> simp [mayW] <;> omega
  have MD : Hid (∀ w, Calls Tryz.prog 174 #[.int .u8 l, .int .u64 c, .int .i64 7] w fun e w' => e = .returned (.tuple #[V l c E0, .int .i64 0]) ∧ Below w.heap.size w w') := fun w => by
    have := made_of l c 7 w (by omega) (by omega) (by omega)
    rw [my] at this
    exact this
  clear my
  rcases hc with ⟨rfl, rfl⟩ | ⟨rfl, rfl⟩
  all_goals
    go_enter Tryz.func154, Tryz.ntmps154
    go_wp2_with (go_at_call 174; refine (MD.out _).mono ?_; rintro e w1 ⟨rfl, hb⟩; obtain ⟨z0, z1, q0, q1, q2, q3, q4, q5, q6, HB⟩ := step_box hb; clear hb)
    exact bodyPost_ret (v := .tuple #[V _ _ E0, .int .i64 0]) (by simp [results, Tryz.results154, go_sem, q3, q4, q5]) rfl ⟨rfl, ((HB.setCell (by simp) _).setCell (by simp) _).setCell (by simp) _⟩
set_option maxRecDepth 100000 in
set_option maxHeartbeats 1000000 in
theorem fmR_8 (s : ByteArray) (d : ¬ l = 5) (d2 : ¬ (l = 15 ∧ kv = 17)) (d3 : ¬ (l = 16 ∧ kv = 17)) : Calls Tryz.prog 154 #[.int .u8 l, V kv b s] w fun e w' => e = .returned (.tuple #[V 0 0 E0, .int .i64 8]) ∧ Below w.heap.size w w' := by
  have k5 : (l == 5) = false := by simpa using d
  obtain ⟨a, ea⟩ : ∃ a, (l == 15) = a := ⟨_, rfl⟩
  obtain ⟨c, ec⟩ : ∃ c, (l == 16) = c := ⟨_, rfl⟩
  obtain ⟨v, ev⟩ : ∃ v, (kv == 17) = v := ⟨_, rfl⟩
  have x1 : a = true → v = false := fun q => by
    subst q
    cases v
    · rfl
    · exact absurd ⟨by simpa using ea, by simpa using ev⟩ d2
  have x2 : c = true → v = false := fun q => by
    subst q
    cases v
    · rfl
    · exact absurd ⟨by simpa using ec, by simpa using ev⟩ d3
  clear d d2 d3
  cases a <;> cases c <;> cases v
  all_goals first | (exfalso; exact absurd (x1 rfl) (by decide)) | (exfalso; exact absurd (x2 rfl) (by decide)) | skip
  all_goals
    clear x1 x2
    go_enter Tryz.func154, Tryz.ntmps154
    go_wp2
    exact bodyPost_ret (v := .tuple #[V 0 0 E0, .int .i64 8]) (by simp [results, Tryz.results154, go_sem]) rfl ⟨rfl, by go_grown⟩
end
end Go.Proofs.YtpaibmganlaaeaaGreatDoor
