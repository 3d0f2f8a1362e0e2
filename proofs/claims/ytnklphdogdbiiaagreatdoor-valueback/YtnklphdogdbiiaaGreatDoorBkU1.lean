/- The document's 'fromWhole' of an integer, to kinds of class one; no statement of the seat is proved here. -/
import Derived.Test.YtnklphdogdbiiaaGreatDoorBkR
import Derived.Test.YtnklphdogdbiiaaGreatDoorBkT
namespace Go.Proofs.YtnklphdogdbiiaaGreatDoor
set_option linter.unusedVariables false
open Go.RowKit
section
variable (l kv b : Int) (w : World)
set_option maxRecDepth 100000 in
set_option maxHeartbeats 2000000 in
theorem fw_neg_one (h0 : 9223372036854775808 ≤ b) (h1 : b < 18446744073709551616) (hk : 2 ≤ kv ∧ kv ≤ 5) :
    Calls Tryz.prog 30 #[.int .u8 1, V kv b E0] w fun e w' => RcOk 1 (b - 18446744073709551616) e ∧ Below w.heap.size w w' := by
  have hk2 : 0 ≤ kv ∧ kv < 256 := by omega
  have wb : wrap64 b = b - 18446744073709551616 := by unfold wrap64; omega
  have ng : IntKind.u64.wrap (-b) = 18446744073709551616 - b := by rw [IntKind.wrap_u64]; omega
  go_enter Tryz.func30, Tryz.ntmps30
  go_wp2_with (first
    | (go_at_call 15; refine (SignedR_is kv _ true hk2 (by symm; simp; omega)).mono ?_; rintro e w2 ⟨rfl, rfl⟩)
    | (go_at_call 45; refine (BoolR_of _ _).mono ?_; rintro e w1 ⟨rfl, hb⟩; obtain ⟨z0, z1, q0, q1, q2, q3, q4, q5, q6, HB⟩ := step_box hb; clear hb))
  exact bodyPost_ret (v := .tuple #[V 1 (tb (18446744073709551616 - b != 0)) E0, .int .i64 0]) (by simp [results, Tryz.results30, go_sem, q3, q4, q5]) rfl ⟨⟨1, _, E0, 0, rfl, fun h _ => absurd h.1 (by omega)⟩, ((HB.setCell (by simp) _).setCell (by simp) _).setCell (by simp) _⟩
set_option maxRecDepth 100000 in
set_option maxHeartbeats 2000000 in
theorem fw_pos_one (h0 : 0 ≤ b) (h1 : b < 18446744073709551616) (hk : 2 ≤ kv ∧ kv ≤ 9) (np : kv ≤ 5 → b < 9223372036854775808) :
    Calls Tryz.prog 30 #[.int .u8 1, V kv b E0] w fun e w' => RcOk 1 b e ∧ Below w.heap.size w w' := by
  have hk2 : 0 ≤ kv ∧ kv < 256 := by omega
  by_cases ks : kv ≤ 5
  · have bs := np ks
    have wb : wrap64 b = b := by unfold wrap64; omega
    go_enter Tryz.func30, Tryz.ntmps30
    go_wp2_with (first
      | (go_at_call 15; refine (SignedR_is kv _ true hk2 (by symm; simp; omega)).mono ?_; rintro e w2 ⟨rfl, rfl⟩)
      | (go_at_call 45; refine (BoolR_of _ _).mono ?_; rintro e w1 ⟨rfl, hb⟩; obtain ⟨z0, z1, q0, q1, q2, q3, q4, q5, q6, HB⟩ := step_box hb; clear hb))
    exact bodyPost_ret (v := .tuple #[V 1 (tb (b != 0)) E0, .int .i64 0]) (by simp [results, Tryz.results30, go_sem, q3, q4, q5]) rfl ⟨⟨1, _, E0, 0, rfl, fun h _ => absurd h.1 (by omega)⟩, ((HB.setCell (by simp) _).setCell (by simp) _).setCell (by simp) _⟩
  · go_enter Tryz.func30, Tryz.ntmps30
    go_wp2_with (first
      | (go_at_call 15; refine (SignedR_is kv _ false hk2 (by symm; simp; omega)).mono ?_; rintro e w2 ⟨rfl, rfl⟩)
      | (go_at_call 45; refine (BoolR_of _ _).mono ?_; rintro e w1 ⟨rfl, hb⟩; obtain ⟨z0, z1, q0, q1, q2, q3, q4, q5, q6, HB⟩ := step_box hb; clear hb))
    exact bodyPost_ret (v := .tuple #[V 1 (tb (b != 0)) E0, .int .i64 0]) (by simp [results, Tryz.results30, go_sem, q3, q4, q5]) rfl ⟨⟨1, _, E0, 0, rfl, fun h _ => absurd h.1 (by omega)⟩, ((HB.setCell (by simp) _).setCell (by simp) _).setCell (by simp) _⟩
end
end Go.Proofs.YtnklphdogdbiiaaGreatDoor
