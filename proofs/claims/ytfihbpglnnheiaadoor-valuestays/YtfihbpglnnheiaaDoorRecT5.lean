/- What value.Reckon answers where numbers are reckoned; no statement of the seat is proved here. -/
import Derived.Test.YtfihbpglnnheiaaDoorRecW
namespace Go.Proofs.YtfihbpglnnheiaaDoor
set_option linter.unusedVariables false
open Go.RowKit
section
variable (op k b k' c : Int) (s t : ByteArray) (w : World)
set_option maxHeartbeats 4000000 in
theorem Reckon_od (h0 : 0 ≤ b) (h1 : b < 18446744073709551616) (hk : 0 ≤ k ∧ k < 256) (hs : s.size ≤ maxLen) (g0 : 0 ≤ c) (g1 : c < 18446744073709551616) (gk : 0 ≤ k' ∧ k' < 256) (gs : t.size ≤ maxLen) (m : may3 k b s = true) (n : may3 k' c t = true) (d : (k == k') = false) (O : Hid (∀ w, Calls Tryd.prog 20 #[.int .i64 op, .int .u8 k, .int .u8 k'] w fun e w' => e = .returned (.int .u8 0) ∧ w' = w)) :
    Calls Tryd.prog 6 #[.int .i64 op, V k b s, V k' c t] w fun e w' => e = .returned (.tuple #[V 0 0 E0, .int .i64 8]) ∧ Below w.heap.size w w' := by
  have M : Hid _ := m
  have N : Hid _ := n
  clear m n
  go_enter Tryd.func6, Tryd.ntmps6
  go_wp2_with fail
  refine (May_is _ _ _ _ true h0 h1 hk hs M.out).mono ?_
  rintro e w1 ⟨rfl, hb⟩
  obtain ⟨z, a0, a1, a2, a3, a4, a5, a6, a7, a8, a9, HB⟩ := step_ab0 hb
  clear hb
  go_wp2_with fail
  refine (May_is _ _ _ _ true g0 g1 gk gs N.out).mono ?_
  rintro e w2 ⟨rfl, hb2⟩
  obtain ⟨y, n0, n1, n2, n3⟩ := step3 hb2 z
  go_wp2_with (first | (go_at_call 20; refine (O.out _).mono ?_; rintro e w3 ⟨rfl, rfl⟩))
  refine bodyPost_ret (v := .tuple #[V 0 0 E0, .int .i64 8]) (by simp [results, Tryd.results6, go_sem, n2, a6, a7, a8]) rfl ⟨rfl, ?_⟩
  have B2 : Below w.heap.size w _ := HB.trans (hb2.mono (by omega))
  go_grown
set_option maxHeartbeats 4000000 in
theorem Reckon_oa1 (h0 : 0 ≤ b) (h1 : b < 18446744073709551616) (hk : 0 ≤ k ∧ k < 256) (hs : s.size ≤ maxLen) (g0 : 0 ≤ c) (g1 : c < 18446744073709551616) (gs : t.size ≤ maxLen) (m : may3 k b s = true) (n : may3 k c t = true) (o5 : op < 6) {hv : Bool} (k18 : (k == 18) = false) (HB0 : Hid (∀ w, Calls Tryd.prog 18 #[.int .u8 k] w fun e w' => e = .returned (.bool hv) ∧ w' = w)) (O : Hid (∀ w, Calls Tryd.prog 20 #[.int .i64 op, .int .u8 k, .int .u8 k] w fun e w' => e = .returned (.int .u8 0) ∧ w' = w)) :
    Calls Tryd.prog 6 #[.int .i64 op, V k b s, V k c t] w fun e w' => e = .returned (.tuple #[V 0 0 E0, .int .i64 8]) ∧ Below w.heap.size w w' := by
  have M : Hid _ := m
  have N : Hid _ := n
  clear m n
  cases hv
  all_goals
    go_enter Tryd.func6, Tryd.ntmps6
    go_wp2_with fail
    refine (May_is _ _ _ _ true h0 h1 hk hs M.out).mono ?_
    rintro e w1 ⟨rfl, hb⟩
    obtain ⟨z, a0, a1, a2, a3, a4, a5, a6, a7, a8, a9, HB⟩ := step_ab0 hb
    clear hb
    go_wp2_with fail
    refine (May_is _ _ _ _ true g0 g1 hk gs N.out).mono ?_
    rintro e w2 ⟨rfl, hb2⟩
    obtain ⟨y, n0, n1, n2, n3⟩ := step3 hb2 z
    go_wp2_with (first | (go_at_call 20; refine (O.out _).mono ?_; rintro e w3 ⟨rfl, rfl⟩) | (go_at_call 18; refine (HB0.out _).mono ?_; rintro e w9 ⟨rfl, rfl⟩))
    refine bodyPost_ret (v := .tuple #[V 0 0 E0, .int .i64 8]) (by simp [results, Tryd.results6, go_sem, n2, a6, a7, a8]) rfl ⟨rfl, ?_⟩
    have B2 : Below w.heap.size w _ := HB.trans (hb2.mono (by omega))
    go_grown
set_option maxHeartbeats 4000000 in
theorem Reckon_oa2 (h0 : 0 ≤ b) (h1 : b < 18446744073709551616) (hk : 0 ≤ k ∧ k < 256) (hs : s.size ≤ maxLen) (g0 : 0 ≤ c) (g1 : c < 18446744073709551616) (gs : t.size ≤ maxLen) (m : may3 k b s = true) (n : may3 k c t = true) (o5 : 14 < op) {hv : Bool} (k18 : (k == 18) = false) (HB0 : Hid (∀ w, Calls Tryd.prog 18 #[.int .u8 k] w fun e w' => e = .returned (.bool hv) ∧ w' = w)) (O : Hid (∀ w, Calls Tryd.prog 20 #[.int .i64 op, .int .u8 k, .int .u8 k] w fun e w' => e = .returned (.int .u8 0) ∧ w' = w)) :
    Calls Tryd.prog 6 #[.int .i64 op, V k b s, V k c t] w fun e w' => e = .returned (.tuple #[V 0 0 E0, .int .i64 8]) ∧ Below w.heap.size w w' := by
  have M : Hid _ := m
  have N : Hid _ := n
  clear m n
  cases hv
  all_goals
    go_enter Tryd.func6, Tryd.ntmps6
    go_wp2_with fail
    refine (May_is _ _ _ _ true h0 h1 hk hs M.out).mono ?_
    rintro e w1 ⟨rfl, hb⟩
    obtain ⟨z, a0, a1, a2, a3, a4, a5, a6, a7, a8, a9, HB⟩ := step_ab0 hb
    clear hb
    go_wp2_with fail
    refine (May_is _ _ _ _ true g0 g1 hk gs N.out).mono ?_
    rintro e w2 ⟨rfl, hb2⟩
    obtain ⟨y, n0, n1, n2, n3⟩ := step3 hb2 z
    go_wp2_with (first | (go_at_call 20; refine (O.out _).mono ?_; rintro e w3 ⟨rfl, rfl⟩) | (go_at_call 18; refine (HB0.out _).mono ?_; rintro e w9 ⟨rfl, rfl⟩))
    refine bodyPost_ret (v := .tuple #[V 0 0 E0, .int .i64 8]) (by simp [results, Tryd.results6, go_sem, n2, a6, a7, a8]) rfl ⟨rfl, ?_⟩
    have B2 : Below w.heap.size w _ := HB.trans (hb2.mono (by omega))
    go_grown
set_option maxHeartbeats 4000000 in
theorem Reckon_oa3 (h0 : 0 ≤ b) (h1 : b < 18446744073709551616) (hk : 0 ≤ k ∧ k < 256) (hs : s.size ≤ maxLen) (g0 : 0 ≤ c) (g1 : c < 18446744073709551616) (gs : t.size ≤ maxLen) (m : may3 k b s = true) (n : may3 k c t = true) (o5 : op < 9) (k18 : (k == 18) = false) (HB0 : Hid (∀ w, Calls Tryd.prog 18 #[.int .u8 k] w fun e w' => e = .returned (.bool false) ∧ w' = w)) (O : Hid (∀ w, Calls Tryd.prog 20 #[.int .i64 op, .int .u8 k, .int .u8 k] w fun e w' => e = .returned (.int .u8 0) ∧ w' = w)) :
    Calls Tryd.prog 6 #[.int .i64 op, V k b s, V k c t] w fun e w' => e = .returned (.tuple #[V 0 0 E0, .int .i64 8]) ∧ Below w.heap.size w w' := by
  have M : Hid _ := m
  have N : Hid _ := n
  clear m n
  go_enter Tryd.func6, Tryd.ntmps6
  go_wp2_with fail
  refine (May_is _ _ _ _ true h0 h1 hk hs M.out).mono ?_
  rintro e w1 ⟨rfl, hb⟩
  obtain ⟨z, a0, a1, a2, a3, a4, a5, a6, a7, a8, a9, HB⟩ := step_ab0 hb
  clear hb
  go_wp2_with fail
  refine (May_is _ _ _ _ true g0 g1 hk gs N.out).mono ?_
  rintro e w2 ⟨rfl, hb2⟩
  obtain ⟨y, n0, n1, n2, n3⟩ := step3 hb2 z
  go_wp2_with (first | (go_at_call 20; refine (O.out _).mono ?_; rintro e w3 ⟨rfl, rfl⟩) | (go_at_call 18; refine (HB0.out _).mono ?_; rintro e w9 ⟨rfl, rfl⟩))
  refine bodyPost_ret (v := .tuple #[V 0 0 E0, .int .i64 8]) (by simp [results, Tryd.results6, go_sem, n2, a6, a7, a8]) rfl ⟨rfl, ?_⟩
  have B2 : Below w.heap.size w _ := HB.trans (hb2.mono (by omega))
  go_grown
end
end Go.Proofs.YtfihbpglnnheiaaDoor
