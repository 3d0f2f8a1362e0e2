/- The document's 'fromWhole' of an integer, to kinds of class text; no statement of the seat is proved here. -/
import Derived.Test.YtnklphdogdbiiaaGreatDoorBkR
import Derived.Test.YtnklphdogdbiiaaGreatDoorBkT
namespace Go.Proofs.YtnklphdogdbiiaaGreatDoor
set_option linter.unusedVariables false
open Go.RowKit
section
variable (l kv b : Int) (w : World)
set_option maxRecDepth 100000 in
set_option maxHeartbeats 2000000 in
theorem fw_neg_text (h0 : 9223372036854775808 ≤ b) (h1 : b < 18446744073709551616) (hk : 2 ≤ kv ∧ kv ≤ 5) (m : may3 kv b E0 = true) (hP : Pow w) :
    Calls Tryz.prog 30 #[.int .u8 19, V kv b E0] w fun e w' => RcOk 19 (b - 18446744073709551616) e ∧ Below w.heap.size w w' := by
  have hk2 : 0 ≤ kv ∧ kv < 256 := by omega
  have wb : wrap64 b = b - 18446744073709551616 := by unfold wrap64; omega
  have ng : IntKind.u64.wrap (-b) = 18446744073709551616 - b := by rw [IntKind.wrap_u64]; omega
  have PR : Hid (∀ w, Pow w → Calls Tryz.prog 53 #[V kv b E0] w fun e w' => (∃ t, e = .returned (.string t) ∧ t.size ≤ 21) ∧ Below w.heap.size w w') := fun w h => PrintR_of kv b w h (by omega) h1 (by omega) m
  have HP : Hid _ := pow_below hP (((Below.refl w.heap.size w).alloc (Nat.le_refl _) (.cells #[.int .u8 kv, .int .u64 b, .string E0] 25)).alloc (by simp) (.cells #[.int .u8 0, .int .u64 0, .string ⟨#[]⟩] 25))
  clear m hP
  go_enter Tryz.func30, Tryz.ntmps30
  go_wp2_with (first
    | (go_at_call 15; refine (SignedR_is kv _ true hk2 (by symm; simp; omega)).mono ?_; rintro e w2 ⟨rfl, rfl⟩)
    | (go_at_call 13; refine (WidthR_is 19 _ (by omega)).mono ?_; rintro e w2 ⟨rfl, rfl⟩)
    | (go_at_call 51; refine (RowR_is kv _ false hk2 (by symm; simp; omega)).mono ?_; rintro e w2 ⟨rfl, rfl⟩)
    | (go_at_call 53; refine (PR.out _ HP.out).mono ?_; rintro e w1 ⟨⟨t, rfl, ht⟩, hb⟩; obtain ⟨z0, z1, q0, q1, q2, q3, q4, q5, q6, HB⟩ := step_box hb; clear hb)
    | (go_at_call 52; refine (TextR_of _ _ (by unfold maxLen; omega)).mono ?_; rw [textR, if_pos (by omega)]; rintro e w4 ⟨rfl, hb4⟩; obtain ⟨u0, u1, l0, l1, l2⟩ := step2 hb4 z0 z1))
  exact bodyPost_ret (v := .tuple #[V 19 0 t, .int .i64 0]) (by simp [results, Tryz.results30, go_sem, l1, q3, q4, q5]) rfl ⟨⟨19, 0, t, 0, rfl, fun h _ => absurd h.2 (by omega)⟩, (((HB.trans (hb4.mono (Nat.le_of_lt z0))).setCell (by simp) _).setCell (by simp) _).setCell (by simp) _⟩
set_option maxRecDepth 100000 in
set_option maxHeartbeats 2000000 in
theorem fw_pos_text (h0 : 0 ≤ b) (h1 : b < 18446744073709551616) (hk : 2 ≤ kv ∧ kv ≤ 9) (np : kv ≤ 5 → b < 9223372036854775808) (m : may3 kv b E0 = true) (hP : Pow w) :
    Calls Tryz.prog 30 #[.int .u8 19, V kv b E0] w fun e w' => RcOk 19 b e ∧ Below w.heap.size w w' := by
  have hk2 : 0 ≤ kv ∧ kv < 256 := by omega
  have PR : Hid (∀ w, Pow w → Calls Tryz.prog 53 #[V kv b E0] w fun e w' => (∃ t, e = .returned (.string t) ∧ t.size ≤ 21) ∧ Below w.heap.size w w') := fun w h => PrintR_of kv b w h (by omega) h1 (by omega) m
  have HP : Hid _ := pow_below hP (((Below.refl w.heap.size w).alloc (Nat.le_refl _) (.cells #[.int .u8 kv, .int .u64 b, .string E0] 25)).alloc (by simp) (.cells #[.int .u8 0, .int .u64 0, .string ⟨#[]⟩] 25))
  clear m hP
  by_cases ks : kv ≤ 5
  · have bs := np ks
    have wb : wrap64 b = b := by unfold wrap64; omega
    go_enter Tryz.func30, Tryz.ntmps30
    go_wp2_with (first
      | (go_at_call 15; refine (SignedR_is kv _ true hk2 (by symm; simp; omega)).mono ?_; rintro e w2 ⟨rfl, rfl⟩)
      | (go_at_call 13; refine (WidthR_is 19 _ (by omega)).mono ?_; rintro e w2 ⟨rfl, rfl⟩)
      | (go_at_call 51; refine (RowR_is kv _ false hk2 (by symm; simp; omega)).mono ?_; rintro e w2 ⟨rfl, rfl⟩)
      | (go_at_call 53; refine (PR.out _ HP.out).mono ?_; rintro e w1 ⟨⟨t, rfl, ht⟩, hb⟩; obtain ⟨z0, z1, q0, q1, q2, q3, q4, q5, q6, HB⟩ := step_box hb; clear hb)
      | (go_at_call 52; refine (TextR_of _ _ (by unfold maxLen; omega)).mono ?_; rw [textR, if_pos (by omega)]; rintro e w4 ⟨rfl, hb4⟩; obtain ⟨u0, u1, l0, l1, l2⟩ := step2 hb4 z0 z1))
    exact bodyPost_ret (v := .tuple #[V 19 0 t, .int .i64 0]) (by simp [results, Tryz.results30, go_sem, l1, q3, q4, q5]) rfl ⟨⟨19, 0, t, 0, rfl, fun h _ => absurd h.2 (by omega)⟩, (((HB.trans (hb4.mono (Nat.le_of_lt z0))).setCell (by simp) _).setCell (by simp) _).setCell (by simp) _⟩
  · go_enter Tryz.func30, Tryz.ntmps30
    go_wp2_with (first
      | (go_at_call 15; refine (SignedR_is kv _ false hk2 (by symm; simp; omega)).mono ?_; rintro e w2 ⟨rfl, rfl⟩)
      | (go_at_call 13; refine (WidthR_is 19 _ (by omega)).mono ?_; rintro e w2 ⟨rfl, rfl⟩)
      | (go_at_call 51; refine (RowR_is kv _ false hk2 (by symm; simp; omega)).mono ?_; rintro e w2 ⟨rfl, rfl⟩)
      | (go_at_call 53; refine (PR.out _ HP.out).mono ?_; rintro e w1 ⟨⟨t, rfl, ht⟩, hb⟩; obtain ⟨z0, z1, q0, q1, q2, q3, q4, q5, q6, HB⟩ := step_box hb; clear hb)
      | (go_at_call 52; refine (TextR_of _ _ (by unfold maxLen; omega)).mono ?_; rw [textR, if_pos (by omega)]; rintro e w4 ⟨rfl, hb4⟩; obtain ⟨u0, u1, l0, l1, l2⟩ := step2 hb4 z0 z1))
    exact bodyPost_ret (v := .tuple #[V 19 0 t, .int .i64 0]) (by simp [results, Tryz.results30, go_sem, l1, q3, q4, q5]) rfl ⟨⟨19, 0, t, 0, rfl, fun h _ => absurd h.2 (by omega)⟩, (((HB.trans (hb4.mono (Nat.le_of_lt z0))).setCell (by simp) _).setCell (by simp) _).setCell (by simp) _⟩
end
end Go.Proofs.YtnklphdogdbiiaaGreatDoor
