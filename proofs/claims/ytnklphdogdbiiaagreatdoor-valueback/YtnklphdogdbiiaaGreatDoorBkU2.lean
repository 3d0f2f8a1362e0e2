/- The document's 'fromWhole' of an integer, to kinds of class two; no statement of the seat is proved here. -/
import Derived.Test.YtnklphdogdbiiaaGreatDoorBkR
import Derived.Test.YtnklphdogdbiiaaGreatDoorBkT
namespace Go.Proofs.YtnklphdogdbiiaaGreatDoor
set_option linter.unusedVariables false
open Go.RowKit
section
variable (l kv b : Int) (w : World)
set_option maxRecDepth 100000 in
set_option maxHeartbeats 2000000 in
theorem fw_neg_two (h0 : 9223372036854775808 ≤ b) (h1 : b < 18446744073709551616) (hk : 2 ≤ kv ∧ kv ≤ 5) (d : 2 ≤ l ∧ l ≤ 13) :
    Calls Tryz.prog 30 #[.int .u8 l, V kv b E0] w fun e w' => RcOk l (b - 18446744073709551616) e ∧ Below w.heap.size w w' := by
  have hk2 : 0 ≤ kv ∧ kv < 256 := by omega
  have wb : wrap64 b = b - 18446744073709551616 := by unfold wrap64; omega
  have ng : IntKind.u64.wrap (-b) = 18446744073709551616 - b := by rw [IntKind.wrap_u64]; omega
  have sw : IntKind.u64.wrap (-(18446744073709551616 - b)) = b := by rw [IntKind.wrap_u64]; omega
  have SFS : Hid (2 ≤ l ∧ l ≤ 5 → mayW l b = true → fitOk l (b - 18446744073709551616) = true) := fun h q => fitS l _ ⟨h.1, by omega⟩ (fun _ => by omega) (fun _ => by omega) (by rw [show (b - 18446744073709551616) % 18446744073709551616 = b by omega]; exact q)
  have SZ : Hid (∀ w, Calls Tryz.prog 47 #[.int .u8 l, .int .u64 (18446744073709551616 - b), .bool true] w fun e w' => RcOk l (b - 18446744073709551616) e ∧ Below w.heap.size w w') := fun w => sized_neg l w (b - 18446744073709551616) (18446744073709551616 - b) b d (by omega) (by omega) sw (by omega) h1 SFS
  have WR : Hid (∀ w, Calls Tryz.prog 13 #[.int .u8 l] w fun e w' => e = .returned (.int .i64 (widN l)) ∧ w' = w) := fun w => WidthR_is l w (by omega)
  clear sw
  have wd : 0 < widN l := by
    unfold widN
    rcases (by omega : l = 2 ∨ l = 3 ∨ l = 4 ∨ l = 5 ∨ l = 6 ∨ l = 7 ∨ l = 8 ∨ l = 9 ∨ l = 10 ∨ l = 11 ∨ l = 12 ∨ l = 13) with rfl | rfl | rfl | rfl | rfl | rfl | rfl | rfl | rfl | rfl | rfl | rfl <;> decide
  have hl2 : 0 ≤ l ∧ l < 256 := by omega
  have k1 : (l == 1) = false := by simp; omega
  have k18 : (l == 18) = false := by simp; omega
  generalize widN l = wl at *
  go_enter Tryz.func30, Tryz.ntmps30
  go_wp2_with (first
    | (go_at_call 15; refine (SignedR_is kv _ true hk2 (by symm; simp; omega)).mono ?_; rintro e w2 ⟨rfl, rfl⟩)
    | (go_at_call 13; refine (WR.out _).mono ?_; rintro e w2 ⟨rfl, rfl⟩)
    | (go_at_call 47; refine (SZ.out _).mono ?_; rintro e w1 ⟨⟨k', b', s', g, rfl, hg⟩, hb⟩; obtain ⟨z0, z1, q0, q1, q2, q3, q4, q5, q6, HB⟩ := step_box hb; clear hb))
  exact bodyPost_ret (v := .tuple #[V k' b' s', .int .i64 g]) (by simp [results, Tryz.results30, go_sem, q3, q4, q5]) rfl ⟨⟨k', b', s', g, rfl, hg⟩, ((HB.setCell (by simp) _).setCell (by simp) _).setCell (by simp) _⟩
set_option maxRecDepth 100000 in
set_option maxHeartbeats 2000000 in
theorem fw_pos_two (h0 : 0 ≤ b) (h1 : b < 18446744073709551616) (hk : 2 ≤ kv ∧ kv ≤ 9) (np : kv ≤ 5 → b < 9223372036854775808) (d : 2 ≤ l ∧ l ≤ 13) :
    Calls Tryz.prog 30 #[.int .u8 l, V kv b E0] w fun e w' => RcOk l b e ∧ Below w.heap.size w w' := by
  have hk2 : 0 ≤ kv ∧ kv < 256 := by omega
  have SZ : Hid (∀ w x n, x = false → n = b → Calls Tryz.prog 47 #[.int .u8 l, .int .u64 n, .bool x] w fun e w' => RcOk l b e ∧ Below w.heap.size w w') := fun w x n hx hn => by subst hx; subst hn; exact sized_pos l w n d h0 h1
  have WR : Hid (∀ w, Calls Tryz.prog 13 #[.int .u8 l] w fun e w' => e = .returned (.int .i64 (widN l)) ∧ w' = w) := fun w => WidthR_is l w (by omega)
  have wd : 0 < widN l := by
    unfold widN
    rcases (by omega : l = 2 ∨ l = 3 ∨ l = 4 ∨ l = 5 ∨ l = 6 ∨ l = 7 ∨ l = 8 ∨ l = 9 ∨ l = 10 ∨ l = 11 ∨ l = 12 ∨ l = 13) with rfl | rfl | rfl | rfl | rfl | rfl | rfl | rfl | rfl | rfl | rfl | rfl <;> decide
  have hl2 : 0 ≤ l ∧ l < 256 := by omega
  have k1 : (l == 1) = false := by simp; omega
  have k18 : (l == 18) = false := by simp; omega
  generalize widN l = wl at *
  by_cases ks : kv ≤ 5
  · have bs := np ks
    have wb : wrap64 b = b := by unfold wrap64; omega
    go_enter Tryz.func30, Tryz.ntmps30
    go_wp2_with (first
      | (go_at_call 15; refine (SignedR_is kv _ true hk2 (by symm; simp; omega)).mono ?_; rintro e w2 ⟨rfl, rfl⟩)
      | (go_at_call 13; refine (WR.out _).mono ?_; rintro e w2 ⟨rfl, rfl⟩)
      | (go_at_call 47; refine (SZ.out _ _ _ (by first | rfl | (simp; omega)) (by first | rfl | omega)).mono ?_; rintro e w1 ⟨⟨k', b', s', g, rfl, hg⟩, hb⟩; obtain ⟨z0, z1, q0, q1, q2, q3, q4, q5, q6, HB⟩ := step_box hb; clear hb))
    exact bodyPost_ret (v := .tuple #[V k' b' s', .int .i64 g]) (by simp [results, Tryz.results30, go_sem, q3, q4, q5]) rfl ⟨⟨k', b', s', g, rfl, hg⟩, ((HB.setCell (by simp) _).setCell (by simp) _).setCell (by simp) _⟩
  · go_enter Tryz.func30, Tryz.ntmps30
    go_wp2_with (first
      | (go_at_call 15; refine (SignedR_is kv _ false hk2 (by symm; simp; omega)).mono ?_; rintro e w2 ⟨rfl, rfl⟩)
      | (go_at_call 13; refine (WR.out _).mono ?_; rintro e w2 ⟨rfl, rfl⟩)
      | (go_at_call 47; refine (SZ.out _ _ _ (by first | rfl | (simp; omega)) (by first | rfl | omega)).mono ?_; rintro e w1 ⟨⟨k', b', s', g, rfl, hg⟩, hb⟩; obtain ⟨z0, z1, q0, q1, q2, q3, q4, q5, q6, HB⟩ := step_box hb; clear hb))
    exact bodyPost_ret (v := .tuple #[V k' b' s', .int .i64 g]) (by simp [results, Tryz.results30, go_sem, q3, q4, q5]) rfl ⟨⟨k', b', s', g, rfl, hg⟩, ((HB.setCell (by simp) _).setCell (by simp) _).setCell (by simp) _⟩
end
end Go.Proofs.YtnklphdogdbiiaaGreatDoor
