/- What the document's Reckon answers, for every operation and two values; no statement of the seat is proved here. -/
import Derived.Test.YtmcmpgnkjjcocaaRecY
import Derived.Deep.RegionHeld3
namespace Go.Proofs.Ytmcmpgnkjjcocaa
set_option linter.unusedVariables false
open Go.RowKit
theorem MayR_is (k b : Int) (s : ByteArray) (w : World) (p : Bool) (h0 : 0 ≤ b) (h1 : b < 18446744073709551616) (hk : 0 ≤ k ∧ k < 256) (hs : s.size ≤ maxLen) (h : may3 k b s = p) :
    Calls Try.prog 19 #[V k b s] w fun e w' => e = .returned (.bool p) ∧ Below w.heap.size w w' := by
  rw [← h]; exact MayR_of k b s w h0 h1 hk hs
section
variable (op k b k' c : Int) (s t : ByteArray) (w : World)
set_option maxHeartbeats 2000000 in
theorem RecR_x1 (h0 : 0 ≤ b) (h1 : b < 18446744073709551616) (hk : 0 ≤ k ∧ k < 256) (hs : s.size ≤ maxLen) (m : may3 k b s = false) {r : Int} (RK : Hid (∀ w, Calls Try.prog 18 #[.int .i64 op, .int .u8 k, .int .u8 k'] w fun e w' => e = .returned (.int .u8 r) ∧ w' = w)) :
    Calls Try.prog 5 #[.int .i64 op, V k b s, V k' c t] w fun e w' => e = .returned (.tuple #[V 0 0 E0, .int .i64 8]) ∧ Below w.heap.size w w' := by
  have M : Hid _ := m
  clear m
  go_enter Try.func5, Try.ntmps5
  go_wp2_with (first | (go_at_call 18; refine (RK.out _).mono ?_; rintro e w0 ⟨rfl, rfl⟩) | (go_at_call 19; refine (MayR_is _ _ _ _ false h0 h1 hk hs M.out).mono ?_; rintro e w1 ⟨rfl, hb⟩; obtain ⟨z, a0, a1, a2, a3, a4, a5, a6, a7, a8, a9, HB⟩ := step_ab0 hb; clear hb))
  refine bodyPost_ret (v := .tuple #[V 0 0 E0, .int .i64 8]) (by simp [results, Try.results5, go_sem, a6, a7, a8]) rfl ⟨rfl, ?_⟩
  go_grown
set_option maxHeartbeats 2000000 in
theorem RecR_x2 (h0 : 0 ≤ b) (h1 : b < 18446744073709551616) (hk : 0 ≤ k ∧ k < 256) (hs : s.size ≤ maxLen) (g0 : 0 ≤ c) (g1 : c < 18446744073709551616) (gk : 0 ≤ k' ∧ k' < 256) (gs : t.size ≤ maxLen) (m : may3 k b s = true) (n : may3 k' c t = false) {r : Int} (RK : Hid (∀ w, Calls Try.prog 18 #[.int .i64 op, .int .u8 k, .int .u8 k'] w fun e w' => e = .returned (.int .u8 r) ∧ w' = w)) :
    Calls Try.prog 5 #[.int .i64 op, V k b s, V k' c t] w fun e w' => e = .returned (.tuple #[V 0 0 E0, .int .i64 8]) ∧ Below w.heap.size w w' := by
  have M : Hid _ := m
  have N : Hid _ := n
  clear m n
  go_enter Try.func5, Try.ntmps5
  go_wp2_with (first | (go_at_call 18; refine (RK.out _).mono ?_; rintro e w0 ⟨rfl, rfl⟩))
  refine (MayR_is _ _ _ _ true h0 h1 hk hs M.out).mono ?_
  rintro e w1 ⟨rfl, hb⟩
  obtain ⟨z, a0, a1, a2, a3, a4, a5, a6, a7, a8, a9, HB⟩ := step_ab0 hb
  clear hb
  go_wp2_with fail
  refine (MayR_is _ _ _ _ false g0 g1 gk gs N.out).mono ?_
  rintro e w2 ⟨rfl, hb2⟩
  obtain ⟨y, n0, n1, n2, n3⟩ := step3 hb2 z
  have B2 := HB.trans (hb2.mono (by omega))
  go_wp2
  refine bodyPost_ret (v := .tuple #[V 0 0 E0, .int .i64 8]) (by simp [results, Try.results5, go_sem, n2, a6, a7, a8]) rfl ⟨rfl, ?_⟩
  go_grown
set_option maxHeartbeats 2000000 in
theorem RecR_x3 (h0 : 0 ≤ b) (h1 : b < 18446744073709551616) (hk : 0 ≤ k ∧ k < 256) (hs : s.size ≤ maxLen) (g0 : 0 ≤ c) (g1 : c < 18446744073709551616) (gk : 0 ≤ k' ∧ k' < 256) (gs : t.size ≤ maxLen) (m : may3 k b s = true) (n : may3 k' c t = true) (RK : Hid (∀ w, Calls Try.prog 18 #[.int .i64 op, .int .u8 k, .int .u8 k'] w fun e w' => e = .returned (.int .u8 0) ∧ w' = w)) :
    Calls Try.prog 5 #[.int .i64 op, V k b s, V k' c t] w fun e w' => e = .returned (.tuple #[V 0 0 E0, .int .i64 8]) ∧ Below w.heap.size w w' := by
  have M : Hid _ := m
  have N : Hid _ := n
  clear m n
  go_enter Try.func5, Try.ntmps5
  go_wp2_with (first | (go_at_call 18; refine (RK.out _).mono ?_; rintro e w0 ⟨rfl, rfl⟩))
  refine (MayR_is _ _ _ _ true h0 h1 hk hs M.out).mono ?_
  rintro e w1 ⟨rfl, hb⟩
  obtain ⟨z, a0, a1, a2, a3, a4, a5, a6, a7, a8, a9, HB⟩ := step_ab0 hb
  clear hb
  go_wp2_with fail
  refine (MayR_is _ _ _ _ true g0 g1 gk gs N.out).mono ?_
  rintro e w2 ⟨rfl, hb2⟩
  obtain ⟨y, n0, n1, n2, n3⟩ := step3 hb2 z
  have B2 := HB.trans (hb2.mono (by omega))
  go_wp2
  refine bodyPost_ret (v := .tuple #[V 0 0 E0, .int .i64 8]) (by simp [results, Try.results5, go_sem, n2, a6, a7, a8]) rfl ⟨rfl, ?_⟩
  go_grown
set_option maxHeartbeats 2000000 in
theorem RecR_c (h0 : 0 ≤ b) (h1 : b < 18446744073709551616) (hk : 0 ≤ k ∧ k < 256) (hs : s.size ≤ maxLen) (g0 : 0 ≤ c) (g1 : c < 18446744073709551616) (gk : 0 ≤ k' ∧ k' < 256) (gs : t.size ≤ maxLen) (m : may3 k b s = true) (n : may3 k' c t = true) (o1 : 9 ≤ op) {r q : Int} (rz : (r == 0) = false) (CP : Hid (∀ w, Calls Try.prog 20 #[.int .i64 op, V k b s, V k' c t] w fun e w' => e = .returned (V 1 q E0) ∧ Below w.heap.size w w')) (RK : Hid (∀ w, Calls Try.prog 18 #[.int .i64 op, .int .u8 k, .int .u8 k'] w fun e w' => e = .returned (.int .u8 r) ∧ w' = w)) :
    Calls Try.prog 5 #[.int .i64 op, V k b s, V k' c t] w fun e w' => e = .returned (.tuple #[V 1 q E0, .int .i64 0]) ∧ Below w.heap.size w w' := by
  have M : Hid _ := m
  have N : Hid _ := n
  clear m n
  go_enter Try.func5, Try.ntmps5
  go_wp2_with (first | (go_at_call 18; refine (RK.out _).mono ?_; rintro e w0 ⟨rfl, rfl⟩))
  refine (MayR_is _ _ _ _ true h0 h1 hk hs M.out).mono ?_
  rintro e w1 ⟨rfl, hb⟩
  obtain ⟨z, a0, a1, a2, a3, a4, a5, a6, a7, a8, a9, HB⟩ := step_ab0 hb
  clear hb
  go_wp2_with fail
  refine (MayR_is _ _ _ _ true g0 g1 gk gs N.out).mono ?_
  rintro e w2 ⟨rfl, hb2⟩
  obtain ⟨y, n0, n1, n2, n3⟩ := step3 hb2 z
  have B2 := HB.trans (hb2.mono (by omega))
  go_wp2_with (first | (go_at_call 20; refine (CP.out _).mono ?_; rintro e w3 ⟨rfl, hb3⟩; obtain ⟨x, m0, m1, m2, m3⟩ := step3 hb3 y))
  refine bodyPost_ret (v := .tuple #[V 1 q E0, .int .i64 0]) (by simp [results, Try.results5, go_sem, m2, n2, a6, a7, a8]) rfl ⟨rfl, ?_⟩
  have B3 := B2.trans (hb3.mono (by omega))
  go_grown
set_option maxHeartbeats 2000000 in
theorem RecR_b6 (h0 : 0 ≤ b) (h1 : b < 18446744073709551616) (hk : 0 ≤ k ∧ k < 256) (hs : s.size ≤ maxLen) (g0 : 0 ≤ c) (g1 : c < 18446744073709551616) (gk : 0 ≤ k' ∧ k' < 256) (gs : t.size ≤ maxLen) (m : may3 k b s = true) (n : may3 k' c t = true) {r : Int} (rz : (r == 0) = false) (RK : Hid (∀ w, Calls Try.prog 18 #[.int .i64 6, .int .u8 k, .int .u8 k'] w fun e w' => e = .returned (.int .u8 r) ∧ w' = w)) :
    Calls Try.prog 5 #[.int .i64 6, V k b s, V k' c t] w fun e w' => e = .returned (.tuple #[V r (bits .and .u64 b c) E0, .int .i64 0]) ∧ Below w.heap.size w w' := by
  have M : Hid _ := m
  have N : Hid _ := n
  clear m n
  go_enter Try.func5, Try.ntmps5
  go_wp2_with (first | (go_at_call 18; refine (RK.out _).mono ?_; rintro e w0 ⟨rfl, rfl⟩))
  refine (MayR_is _ _ _ _ true h0 h1 hk hs M.out).mono ?_
  rintro e w1 ⟨rfl, hb⟩
  obtain ⟨z, a0, a1, a2, a3, a4, a5, a6, a7, a8, a9, HB⟩ := step_ab0 hb
  clear hb
  go_wp2_with fail
  refine (MayR_is _ _ _ _ true g0 g1 gk gs N.out).mono ?_
  rintro e w2 ⟨rfl, hb2⟩
  obtain ⟨y, n0, n1, n2, n3⟩ := step3 hb2 z
  have B2 := HB.trans (hb2.mono (by omega))
  go_wp2
  refine bodyPost_ret (v := .tuple #[V r (bits .and .u64 b c) E0, .int .i64 0]) (by simp [results, Try.results5, go_sem, n2, a6, a7, a8]) rfl ⟨rfl, ?_⟩
  go_grown
set_option maxHeartbeats 2000000 in
theorem RecR_b7 (h0 : 0 ≤ b) (h1 : b < 18446744073709551616) (hk : 0 ≤ k ∧ k < 256) (hs : s.size ≤ maxLen) (g0 : 0 ≤ c) (g1 : c < 18446744073709551616) (gk : 0 ≤ k' ∧ k' < 256) (gs : t.size ≤ maxLen) (m : may3 k b s = true) (n : may3 k' c t = true) {r : Int} (rz : (r == 0) = false) (RK : Hid (∀ w, Calls Try.prog 18 #[.int .i64 7, .int .u8 k, .int .u8 k'] w fun e w' => e = .returned (.int .u8 r) ∧ w' = w)) :
    Calls Try.prog 5 #[.int .i64 7, V k b s, V k' c t] w fun e w' => e = .returned (.tuple #[V r (bits .or .u64 b c) E0, .int .i64 0]) ∧ Below w.heap.size w w' := by
  have M : Hid _ := m
  have N : Hid _ := n
  clear m n
  go_enter Try.func5, Try.ntmps5
  go_wp2_with (first | (go_at_call 18; refine (RK.out _).mono ?_; rintro e w0 ⟨rfl, rfl⟩))
  refine (MayR_is _ _ _ _ true h0 h1 hk hs M.out).mono ?_
  rintro e w1 ⟨rfl, hb⟩
  obtain ⟨z, a0, a1, a2, a3, a4, a5, a6, a7, a8, a9, HB⟩ := step_ab0 hb
  clear hb
  go_wp2_with fail
  refine (MayR_is _ _ _ _ true g0 g1 gk gs N.out).mono ?_
  rintro e w2 ⟨rfl, hb2⟩
  obtain ⟨y, n0, n1, n2, n3⟩ := step3 hb2 z
  have B2 := HB.trans (hb2.mono (by omega))
  go_wp2
  refine bodyPost_ret (v := .tuple #[V r (bits .or .u64 b c) E0, .int .i64 0]) (by simp [results, Try.results5, go_sem, n2, a6, a7, a8]) rfl ⟨rfl, ?_⟩
  go_grown
set_option maxHeartbeats 2000000 in
theorem RecR_b8 (h0 : 0 ≤ b) (h1 : b < 18446744073709551616) (hk : 0 ≤ k ∧ k < 256) (hs : s.size ≤ maxLen) (g0 : 0 ≤ c) (g1 : c < 18446744073709551616) (gk : 0 ≤ k' ∧ k' < 256) (gs : t.size ≤ maxLen) (m : may3 k b s = true) (n : may3 k' c t = true) {r : Int} (rz : (r == 0) = false) (RK : Hid (∀ w, Calls Try.prog 18 #[.int .i64 8, .int .u8 k, .int .u8 k'] w fun e w' => e = .returned (.int .u8 r) ∧ w' = w)) :
    Calls Try.prog 5 #[.int .i64 8, V k b s, V k' c t] w fun e w' => e = .returned (.tuple #[V r (bits .xor .u64 b c) E0, .int .i64 0]) ∧ Below w.heap.size w w' := by
  have M : Hid _ := m
  have N : Hid _ := n
  clear m n
  go_enter Try.func5, Try.ntmps5
  go_wp2_with (first | (go_at_call 18; refine (RK.out _).mono ?_; rintro e w0 ⟨rfl, rfl⟩))
  refine (MayR_is _ _ _ _ true h0 h1 hk hs M.out).mono ?_
  rintro e w1 ⟨rfl, hb⟩
  obtain ⟨z, a0, a1, a2, a3, a4, a5, a6, a7, a8, a9, HB⟩ := step_ab0 hb
  clear hb
  go_wp2_with fail
  refine (MayR_is _ _ _ _ true g0 g1 gk gs N.out).mono ?_
  rintro e w2 ⟨rfl, hb2⟩
  obtain ⟨y, n0, n1, n2, n3⟩ := step3 hb2 z
  have B2 := HB.trans (hb2.mono (by omega))
  go_wp2
  refine bodyPost_ret (v := .tuple #[V r (bits .xor .u64 b c) E0, .int .i64 0]) (by simp [results, Try.results5, go_sem, n2, a6, a7, a8]) rfl ⟨rfl, ?_⟩
  go_grown
set_option maxHeartbeats 2000000 in
theorem RecR_f (h0 : 0 ≤ b) (h1 : b < 18446744073709551616) (hk : 0 ≤ k ∧ k < 256) (hs : s.size ≤ maxLen) (g0 : 0 ≤ c) (g1 : c < 18446744073709551616) (gk : 0 ≤ k' ∧ k' < 256) (gs : t.size ≤ maxLen) (m : may3 k b s = true) (n : may3 k' c t = true) (o5 : op ≤ 5) {q : Int} (FL : Hid (∀ w, Calls Try.prog 21 #[.int .i64 op, .float .f64 b.toNat, .float .f64 c.toNat] w fun e w' => e = .returned (V 18 q E0) ∧ Below w.heap.size w w')) (RK : Hid (∀ w, Calls Try.prog 18 #[.int .i64 op, .int .u8 k, .int .u8 k'] w fun e w' => e = .returned (.int .u8 18) ∧ w' = w)) :
    Calls Try.prog 5 #[.int .i64 op, V k b s, V k' c t] w fun e w' => e = .returned (.tuple #[V 18 q E0, .int .i64 0]) ∧ Below w.heap.size w w' := by
  have M : Hid _ := m
  have N : Hid _ := n
  clear m n
  have p6 : (op == 6) = false := by simp; omega
  have p7 : (op == 7) = false := by simp; omega
  have p8 : (op == 8) = false := by simp; omega
  have hx := call_frombits
  have q1 : ¬ w.heap.size + 1 + 1 = w.heap.size := by omega
  go_enter Try.func5, Try.ntmps5
  go_wp2_with (first | (go_at_call 18; refine (RK.out _).mono ?_; rintro e w0 ⟨rfl, rfl⟩))
  refine (MayR_is _ _ _ _ true h0 h1 hk hs M.out).mono ?_
  rintro e w1 ⟨rfl, hb⟩
  obtain ⟨z, a0, a1, a2, a3, a4, a5, a6, a7, a8, a9, HB⟩ := step_ab0 hb
  clear hb
  go_wp2_with fail
  refine (MayR_is _ _ _ _ true g0 g1 gk gs N.out).mono ?_
  rintro e w2 ⟨rfl, hb2⟩
  obtain ⟨y, n0, n1, n2, n3⟩ := step3 hb2 z
  have B2 := HB.trans (hb2.mono (by omega))
  go_wp2_with fail
  go_region_held3 (fun w' => w'.cell? ⟨w.heap.size, 1, none⟩ = some (.int .u64 b) ∧ w'.cell? ⟨w.heap.size + 1, 1, none⟩ = some (.int .u64 c)) (go_keep)
    (first | (go_at_call 21; refine (FL.out _).mono ?_; rintro e w3 ⟨rfl, hb3⟩; obtain ⟨x, m0, m1, m2, m3⟩ := step3 hb3 (h := w.heap.size) (by exact y)))
  go_wp2
  refine bodyPost_ret (v := .tuple #[V 18 q E0, .int .i64 0]) (by simp [results, Try.results5, go_sem, m2, n2, a6, a7, a8]) rfl ⟨rfl, ?_⟩
  have B3 := B2.drew.trans (hb3.mono (by have : w2.drew.heap.size = w2.heap.size := rfl; omega))
  go_grown
set_option maxHeartbeats 2000000 in
theorem RecR_un (h0 : 0 ≤ b) (h1 : b < 18446744073709551616) (hk : 0 ≤ k ∧ k < 256) (hs : s.size ≤ maxLen) (g0 : 0 ≤ c) (g1 : c < 18446744073709551616) (gk : 0 ≤ k' ∧ k' < 256) (gs : t.size ≤ maxLen) (m : may3 k b s = true) (n : may3 k' c t = true) (o5 : op ≤ 5) {r v f : Int} (rz : (r == 0) = false) (r18 : (r == 18) = false) (fz : (f != 0) = true) (UN : Hid (∀ w, Calls Try.prog 22 #[.int .u8 r] w fun e w' => e = .returned (.bool true) ∧ w' = w)) (SG : Hid (∀ w, Calls Try.prog 23 #[.int .i64 op, .int .u64 b, .int .u64 c] w fun e w' => e = .returned (.tuple #[.int .u64 v, .int .i64 f]) ∧ w' = w)) (RK : Hid (∀ w, Calls Try.prog 18 #[.int .i64 op, .int .u8 k, .int .u8 k'] w fun e w' => e = .returned (.int .u8 r) ∧ w' = w)) :
    Calls Try.prog 5 #[.int .i64 op, V k b s, V k' c t] w fun e w' => e = .returned (.tuple #[V 0 0 E0, .int .i64 f]) ∧ Below w.heap.size w w' := by
  have M : Hid _ := m
  have N : Hid _ := n
  clear m n
  have p6 : (op == 6) = false := by simp; omega
  have p7 : (op == 7) = false := by simp; omega
  have p8 : (op == 8) = false := by simp; omega
  go_enter Try.func5, Try.ntmps5
  go_wp2_with (first | (go_at_call 18; refine (RK.out _).mono ?_; rintro e w0 ⟨rfl, rfl⟩))
  refine (MayR_is _ _ _ _ true h0 h1 hk hs M.out).mono ?_
  rintro e w1 ⟨rfl, hb⟩
  obtain ⟨z, a0, a1, a2, a3, a4, a5, a6, a7, a8, a9, HB⟩ := step_ab0 hb
  clear hb
  go_wp2_with fail
  refine (MayR_is _ _ _ _ true g0 g1 gk gs N.out).mono ?_
  rintro e w2 ⟨rfl, hb2⟩
  obtain ⟨y, n0, n1, n2, n3⟩ := step3 hb2 z
  have B2 := HB.trans (hb2.mono (by omega))
  go_wp2_with (first | (go_at_call 22; refine (UN.out _).mono ?_; rintro e w3 ⟨rfl, rfl⟩) | (go_at_call 23; refine (SG.out _).mono ?_; rintro e w4 ⟨rfl, rfl⟩))
  refine bodyPost_ret (v := .tuple #[V 0 0 E0, .int .i64 f]) (by simp [results, Try.results5, go_sem, n2, a6, a7, a8]) rfl ⟨rfl, ?_⟩
  go_grown
set_option maxHeartbeats 2000000 in
theorem RecR_uy (h0 : 0 ≤ b) (h1 : b < 18446744073709551616) (hk : 0 ≤ k ∧ k < 256) (hs : s.size ≤ maxLen) (g0 : 0 ≤ c) (g1 : c < 18446744073709551616) (gk : 0 ≤ k' ∧ k' < 256) (gs : t.size ≤ maxLen) (m : may3 k b s = true) (n : may3 k' c t = true) (o5 : op ≤ 5) {r v K B f : Int} (rz : (r == 0) = false) (r18 : (r == 18) = false) (UN : Hid (∀ w, Calls Try.prog 22 #[.int .u8 r] w fun e w' => e = .returned (.bool true) ∧ w' = w)) (SG : Hid (∀ w, Calls Try.prog 23 #[.int .i64 op, .int .u64 b, .int .u64 c] w fun e w' => e = .returned (.tuple #[.int .u64 v, .int .i64 0]) ∧ w' = w)) (MD : Hid (∀ w, Calls Try.prog 24 #[.int .u8 r, .int .u64 v, .int .i64 1] w fun e w' => e = .returned (.tuple #[V K B E0, .int .i64 f]) ∧ Below w.heap.size w w')) (RK : Hid (∀ w, Calls Try.prog 18 #[.int .i64 op, .int .u8 k, .int .u8 k'] w fun e w' => e = .returned (.int .u8 r) ∧ w' = w)) :
    Calls Try.prog 5 #[.int .i64 op, V k b s, V k' c t] w fun e w' => e = .returned (.tuple #[V K B E0, .int .i64 f]) ∧ Below w.heap.size w w' := by
  have M : Hid _ := m
  have N : Hid _ := n
  clear m n
  have p6 : (op == 6) = false := by simp; omega
  have p7 : (op == 7) = false := by simp; omega
  have p8 : (op == 8) = false := by simp; omega
  go_enter Try.func5, Try.ntmps5
  go_wp2_with (first | (go_at_call 18; refine (RK.out _).mono ?_; rintro e w0 ⟨rfl, rfl⟩))
  refine (MayR_is _ _ _ _ true h0 h1 hk hs M.out).mono ?_
  rintro e w1 ⟨rfl, hb⟩
  obtain ⟨z, a0, a1, a2, a3, a4, a5, a6, a7, a8, a9, HB⟩ := step_ab0 hb
  clear hb
  go_wp2_with fail
  refine (MayR_is _ _ _ _ true g0 g1 gk gs N.out).mono ?_
  rintro e w2 ⟨rfl, hb2⟩
  obtain ⟨y, n0, n1, n2, n3⟩ := step3 hb2 z
  have B2 := HB.trans (hb2.mono (by omega))
  go_wp2_with (first | (go_at_call 22; refine (UN.out _).mono ?_; rintro e w3 ⟨rfl, rfl⟩) | (go_at_call 23; refine (SG.out _).mono ?_; rintro e w4 ⟨rfl, rfl⟩) | (go_at_call 24; refine (MD.out _).mono ?_; rintro e w5 ⟨rfl, hb3⟩; obtain ⟨x, m0, m1, m2, m3⟩ := step3 hb3 (h := w.heap.size) (by assumption)))
  refine bodyPost_ret (v := .tuple #[V K B E0, .int .i64 f]) (by simp [results, Try.results5, go_sem, m2, n2, a6, a7, a8]) rfl ⟨rfl, ?_⟩
  have B3 := B2.trans (hb3.mono (by omega))
  go_grown
set_option maxHeartbeats 2000000 in
theorem RecR_sn (h0 : 0 ≤ b) (h1 : b < 18446744073709551616) (hk : 0 ≤ k ∧ k < 256) (hs : s.size ≤ maxLen) (g0 : 0 ≤ c) (g1 : c < 18446744073709551616) (gk : 0 ≤ k' ∧ k' < 256) (gs : t.size ≤ maxLen) (m : may3 k b s = true) (n : may3 k' c t = true) (o5 : op ≤ 5) {r v f : Int} (rz : (r == 0) = false) (r18 : (r == 18) = false) (fz : (f != 0) = true) (UN : Hid (∀ w, Calls Try.prog 22 #[.int .u8 r] w fun e w' => e = .returned (.bool false) ∧ w' = w)) (SG : Hid (∀ w, Calls Try.prog 25 #[.int .i64 op, .int .i64 (wrap64 b), .int .i64 (wrap64 c)] w fun e w' => e = .returned (.tuple #[.int .i64 v, .int .i64 f]) ∧ w' = w)) (RK : Hid (∀ w, Calls Try.prog 18 #[.int .i64 op, .int .u8 k, .int .u8 k'] w fun e w' => e = .returned (.int .u8 r) ∧ w' = w)) :
    Calls Try.prog 5 #[.int .i64 op, V k b s, V k' c t] w fun e w' => e = .returned (.tuple #[V 0 0 E0, .int .i64 f]) ∧ Below w.heap.size w w' := by
  have M : Hid _ := m
  have N : Hid _ := n
  clear m n
  have p6 : (op == 6) = false := by simp; omega
  have p7 : (op == 7) = false := by simp; omega
  have p8 : (op == 8) = false := by simp; omega
  go_enter Try.func5, Try.ntmps5
  go_wp2_with (first | (go_at_call 18; refine (RK.out _).mono ?_; rintro e w0 ⟨rfl, rfl⟩))
  refine (MayR_is _ _ _ _ true h0 h1 hk hs M.out).mono ?_
  rintro e w1 ⟨rfl, hb⟩
  obtain ⟨z, a0, a1, a2, a3, a4, a5, a6, a7, a8, a9, HB⟩ := step_ab0 hb
  clear hb
  go_wp2_with fail
  refine (MayR_is _ _ _ _ true g0 g1 gk gs N.out).mono ?_
  rintro e w2 ⟨rfl, hb2⟩
  obtain ⟨y, n0, n1, n2, n3⟩ := step3 hb2 z
  have B2 := HB.trans (hb2.mono (by omega))
  go_wp2_with (first | (go_at_call 22; refine (UN.out _).mono ?_; rintro e w3 ⟨rfl, rfl⟩) | (go_at_call 25; refine (SG.out _).mono ?_; rintro e w4 ⟨rfl, rfl⟩))
  refine bodyPost_ret (v := .tuple #[V 0 0 E0, .int .i64 f]) (by simp [results, Try.results5, go_sem, n2, a6, a7, a8]) rfl ⟨rfl, ?_⟩
  go_grown
set_option maxHeartbeats 2000000 in
theorem RecR_sy (h0 : 0 ≤ b) (h1 : b < 18446744073709551616) (hk : 0 ≤ k ∧ k < 256) (hs : s.size ≤ maxLen) (g0 : 0 ≤ c) (g1 : c < 18446744073709551616) (gk : 0 ≤ k' ∧ k' < 256) (gs : t.size ≤ maxLen) (m : may3 k b s = true) (n : may3 k' c t = true) (o5 : op ≤ 5) {r v K B f : Int} (rz : (r == 0) = false) (r18 : (r == 18) = false) (UN : Hid (∀ w, Calls Try.prog 22 #[.int .u8 r] w fun e w' => e = .returned (.bool false) ∧ w' = w)) (SG : Hid (∀ w, Calls Try.prog 25 #[.int .i64 op, .int .i64 (wrap64 b), .int .i64 (wrap64 c)] w fun e w' => e = .returned (.tuple #[.int .i64 v, .int .i64 0]) ∧ w' = w)) (MD : Hid (∀ w, Calls Try.prog 24 #[.int .u8 r, .int .u64 (IntKind.u64.wrap v), .int .i64 1] w fun e w' => e = .returned (.tuple #[V K B E0, .int .i64 f]) ∧ Below w.heap.size w w')) (RK : Hid (∀ w, Calls Try.prog 18 #[.int .i64 op, .int .u8 k, .int .u8 k'] w fun e w' => e = .returned (.int .u8 r) ∧ w' = w)) :
    Calls Try.prog 5 #[.int .i64 op, V k b s, V k' c t] w fun e w' => e = .returned (.tuple #[V K B E0, .int .i64 f]) ∧ Below w.heap.size w w' := by
  have M : Hid _ := m
  have N : Hid _ := n
  clear m n
  have p6 : (op == 6) = false := by simp; omega
  have p7 : (op == 7) = false := by simp; omega
  have p8 : (op == 8) = false := by simp; omega
  go_enter Try.func5, Try.ntmps5
  go_wp2_with (first | (go_at_call 18; refine (RK.out _).mono ?_; rintro e w0 ⟨rfl, rfl⟩))
  refine (MayR_is _ _ _ _ true h0 h1 hk hs M.out).mono ?_
  rintro e w1 ⟨rfl, hb⟩
  obtain ⟨z, a0, a1, a2, a3, a4, a5, a6, a7, a8, a9, HB⟩ := step_ab0 hb
  clear hb
  go_wp2_with fail
  refine (MayR_is _ _ _ _ true g0 g1 gk gs N.out).mono ?_
  rintro e w2 ⟨rfl, hb2⟩
  obtain ⟨y, n0, n1, n2, n3⟩ := step3 hb2 z
  have B2 := HB.trans (hb2.mono (by omega))
  go_wp2_with (first | (go_at_call 22; refine (UN.out _).mono ?_; rintro e w3 ⟨rfl, rfl⟩) | (go_at_call 25; refine (SG.out _).mono ?_; rintro e w4 ⟨rfl, rfl⟩) | (go_at_call 24; refine (MD.out _).mono ?_; rintro e w5 ⟨rfl, hb3⟩; obtain ⟨x, m0, m1, m2, m3⟩ := step3 hb3 (h := w.heap.size) (by assumption)))
  refine bodyPost_ret (v := .tuple #[V K B E0, .int .i64 f]) (by simp [results, Try.results5, go_sem, m2, n2, a6, a7, a8]) rfl ⟨rfl, ?_⟩
  have B3 := B2.trans (hb3.mono (by omega))
  go_grown
end
end Go.Proofs.Ytmcmpgnkjjcocaa
