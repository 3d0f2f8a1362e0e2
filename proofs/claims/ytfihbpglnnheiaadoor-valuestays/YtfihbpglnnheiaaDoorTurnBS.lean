/- What value.Turn answers, for every operation and value: the other ways, and all together; no statement of the seat is proved here. -/
import Derived.Test.YtfihbpglnnheiaaDoorTurnS
import Derived.Test.YtfihbpglnnheiaaDoorLreal
namespace Go.Proofs.YtfihbpglnnheiaaDoor
set_option linter.unusedVariables false
open Go.RowKit
section
variable (op k b : Int) (s : ByteArray) (w : World)
set_option maxHeartbeats 1000000 in
theorem Turn_x (h0 : 0 ≤ b) (h1 : b < 18446744073709551616) (hk : 0 ≤ k ∧ k < 256) (hs : s.size ≤ maxLen) (c : may3 k b s = false) :
    Calls Tryd.prog 7 #[.int .i64 op, V k b s] w fun e w' => e = .returned (.tuple #[V 0 0 E0, .int .i64 8]) ∧ Below w.heap.size w w' := by
  go_enter Tryd.func7, Tryd.ntmps7
  go_wp2_with (first | (go_at_call 13; refine (May_of _ _ _ _ h0 h1 hk hs).mono ?_; rintro e w1 ⟨rfl, hb⟩; obtain ⟨z0, z1, q0, q1, q2, q3, q4, q5, q6, HB⟩ := step_box hb; clear hb) | go_in)
  exact bodyPost_ret (v := .tuple #[V 0 0 E0, .int .i64 8]) (by simp [results, Tryd.results7, go_sem, q3, q4, q5]) rfl ⟨rfl, ((HB.setCell (by simp) _).setCell (by simp) _).setCell (by simp) _⟩
set_option maxHeartbeats 1000000 in
theorem Turn_y (h0 : 0 ≤ b) (h1 : b < 18446744073709551616) (hk : 0 ≤ k ∧ k < 256) (hs : s.size ≤ maxLen) (c : may3 k b s = true) (o1 : (op == 15) = false) (o2 : (op == 16) = false) :
    Calls Tryd.prog 7 #[.int .i64 op, V k b s] w fun e w' => e = .returned (.tuple #[V 0 0 E0, .int .i64 8]) ∧ Below w.heap.size w w' := by
  go_enter Tryd.func7, Tryd.ntmps7
  go_wp2_with (first | (go_at_call 13; refine (May_of _ _ _ _ h0 h1 hk hs).mono ?_; rintro e w1 ⟨rfl, hb⟩; obtain ⟨z0, z1, q0, q1, q2, q3, q4, q5, q6, HB⟩ := step_box hb; clear hb) | go_in)
  exact bodyPost_ret (v := .tuple #[V 0 0 E0, .int .i64 8]) (by simp [results, Tryd.results7, go_sem, q3, q4, q5]) rfl ⟨rfl, ((HB.setCell (by simp) _).setCell (by simp) _).setCell (by simp) _⟩
set_option maxHeartbeats 2000000 in
theorem Turn_z (h0 : 0 ≤ b) (h1 : b < 18446744073709551616) (hk : 0 ≤ k ∧ k < 256) (hs : s.size ≤ maxLen) (c : may3 k b s = true) (d : ¬ (2 ≤ k ∧ k ≤ 5) ∧ ¬ k = 14 ∧ ¬ k = 18) :
    Calls Tryd.prog 7 #[.int .i64 15, V k b s] w fun e w' => e = .returned (.tuple #[V 0 0 E0, .int .i64 8]) ∧ Below w.heap.size w w' := by
  obtain ⟨d1, d2, d3⟩ := d
  have e2 : (k == 14) = false := by simpa using d2
  have e3 : (k == 18) = false := by simpa using d3
  have dd : k < 2 ∨ 5 < k := by omega
  clear d1 d2 d3
  rcases dd with d1 | d1
  all_goals
    go_enter Tryd.func7, Tryd.ntmps7
    go_wp2_with (first | (go_at_call 13; refine (May_of _ _ _ _ h0 h1 hk hs).mono ?_; rintro e w1 ⟨rfl, hb⟩; obtain ⟨z0, z1, q0, q1, q2, q3, q4, q5, q6, HB⟩ := step_box hb; clear hb) | go_in)
    exact bodyPost_ret (v := .tuple #[V 0 0 E0, .int .i64 8]) (by simp [results, Tryd.results7, go_sem, q3, q4, q5]) rfl ⟨rfl, ((HB.setCell (by simp) _).setCell (by simp) _).setCell (by simp) _⟩
set_option maxHeartbeats 2000000 in
theorem Turn_u (h0 : 0 ≤ b) (h1 : b < 18446744073709551616) (hk : 0 ≤ k ∧ k < 256) (hs : s.size ≤ maxLen) (c : may3 k b s = true) (d : ¬ k = 1 ∧ ¬ (10 ≤ k ∧ k ≤ 13)) :
    Calls Tryd.prog 7 #[.int .i64 16, V k b s] w fun e w' => e = .returned (.tuple #[V 0 0 E0, .int .i64 8]) ∧ Below w.heap.size w w' := by
  obtain ⟨d1, d2⟩ := d
  have e2 : (k == 1) = false := by simpa using d1
  have dd : k < 10 ∨ 13 < k := by omega
  clear d1 d2
  rcases dd with d1 | d1
  all_goals
    go_enter Tryd.func7, Tryd.ntmps7
    go_wp2_with (first | (go_at_call 13; refine (May_of _ _ _ _ h0 h1 hk hs).mono ?_; rintro e w1 ⟨rfl, hb⟩; obtain ⟨z0, z1, q0, q1, q2, q3, q4, q5, q6, HB⟩ := step_box hb; clear hb) | go_in)
    exact bodyPost_ret (v := .tuple #[V 0 0 E0, .int .i64 8]) (by simp [results, Tryd.results7, go_sem, q3, q4, q5]) rfl ⟨rfl, ((HB.setCell (by simp) _).setCell (by simp) _).setCell (by simp) _⟩
set_option maxHeartbeats 1000000 in
theorem Turn_f (h0 : 0 ≤ b) (h1 : b < 18446744073709551616) (hs : s.size ≤ maxLen) (c : may3 18 b s = true) :
    Calls Tryd.prog 7 #[.int .i64 15, V 18 b s] w fun e w' => e = .returned (.tuple #[V 18 (lrealB (flipN b)) E0, .int .i64 0]) ∧ Below w.heap.size w w' := by
  have hx := call_frombits
  have hn : ∀ w, (Op.unary UnOp.neg (.float .f64 b.toNat)).run Tryd.prog w = .ok (.float .f64 (flipN b)) w := fun _ => rfl
  go_enter Tryd.func7, Tryd.ntmps7
  go_wp2_with (first | (go_at_call 13; refine (May_of _ _ _ _ h0 h1 (by omega) hs).mono ?_; rintro e w1 ⟨rfl, hb⟩; obtain ⟨z0, z1, q0, q1, q2, q3, q4, q5, q6, HB⟩ := step_box hb; clear hb) | (go_at_call 25; refine (Lreal_of _ _).mono ?_; rintro e w2 ⟨rfl, hb2⟩; obtain ⟨y0, y1, n0, n1, n2⟩ := step2 hb2 z0 z1) | go_in)
  exact bodyPost_ret (v := .tuple #[V 18 (lrealB (flipN b)) E0, .int .i64 0]) (by simp [results, Tryd.results7, go_sem, n1, q3, q4, q5]) rfl ⟨rfl, (((HB.trans (hb2.mono (Nat.le_of_lt z0))).setCell (by simp) _).setCell (by simp) _).setCell (by simp) _⟩
set_option maxHeartbeats 400000 in
theorem width_1 (w : World) : Calls Tryd.prog 26 #[.int .u8 1] w fun e w' => e = .returned (.int .u64 1) ∧ w' = w := by
  go_enter Tryd.func26, Tryd.ntmps26
  go_wp2
  go_ret
  exact ⟨rfl, rfl⟩
theorem xor_1 (b : Int) (h0 : 0 ≤ b) (h1 : b ≤ 1) : bits .xor .u64 b 1 = notB 1 b := by
  rw [xor_mask 1 1 b (by decide) (by omega) h0 h1]; rfl
set_option maxHeartbeats 1000000 in
theorem Turn_n1 (b : Int) (s : ByteArray) (w : World) (h0 : 0 ≤ b) (h1 : b < 18446744073709551616) (hs : s.size ≤ maxLen) (c : may3 1 b s = true) (g : b ≤ 1) :
    Calls Tryd.prog 7 #[.int .i64 16, V 1 b s] w fun e w' => e = .returned (.tuple #[V 1 (notB 1 b) E0, .int .i64 0]) ∧ Below w.heap.size w w' := by
  have X : Hid (bits .xor .u64 b (IntKind.u64.wrap (IntKind.u64.wrap 2 - 1)) = notB 1 b) := by show _ = _; rw [show IntKind.u64.wrap (IntKind.u64.wrap 2 - 1) = 1 from by rw [IntKind.wrap_u64, IntKind.wrap_u64]; decide]; exact xor_1 b h0 g
  go_enter Tryd.func7, Tryd.ntmps7
  go_wp2_with (first | (go_at_call 13; refine (May_of _ _ _ _ h0 h1 (by omega) hs).mono ?_; rintro e w1 ⟨rfl, hb⟩; obtain ⟨z0, z1, q0, q1, q2, q3, q4, q5, q6, HB⟩ := step_box hb; clear hb) | go_in)
  have HB : Hid (Below w.heap.size w w1) := HB
  go_region_held3 (fun w' => w'.cell? ⟨w.heap.size, 0, none⟩ = some (.int .u8 1) ∧ w'.cell? ⟨w.heap.size, 1, none⟩ = some (.int .u64 b) ∧ w'.cell? ⟨w.heap.size, 2, none⟩ = some (.string s)) (go_keep)
    (first | (go_at_call 26; refine (width_1 _).mono ?_; rintro e w2 ⟨rfl, rfl⟩))
  have B := HB.out.drew
  go_wp2
  exact bodyPost_ret (v := .tuple #[V 1 (notB 1 b) E0, .int .i64 0]) (by simp [results, Tryd.results7, go_sem, X.out, q3, q4, q5]) rfl ⟨rfl, ((B.setCell (by simp) _).setCell (by simp) _).setCell (by simp) _⟩
set_option maxHeartbeats 400000 in
theorem width_10 (w : World) : Calls Tryd.prog 26 #[.int .u8 10] w fun e w' => e = .returned (.int .u64 8) ∧ w' = w := by
  go_enter Tryd.func26, Tryd.ntmps26
  go_wp2
  go_ret
  exact ⟨rfl, rfl⟩
theorem xor_10 (b : Int) (h0 : 0 ≤ b) (h1 : b ≤ 255) : bits .xor .u64 b 255 = notB 10 b := by
  rw [xor_mask 8 255 b (by decide) (by omega) h0 h1]; rfl
set_option maxHeartbeats 1000000 in
theorem Turn_n10 (b : Int) (s : ByteArray) (w : World) (h0 : 0 ≤ b) (h1 : b < 18446744073709551616) (hs : s.size ≤ maxLen) (c : may3 10 b s = true) (g : b ≤ 255) :
    Calls Tryd.prog 7 #[.int .i64 16, V 10 b s] w fun e w' => e = .returned (.tuple #[V 10 (notB 10 b) E0, .int .i64 0]) ∧ Below w.heap.size w w' := by
  have X : Hid (bits .xor .u64 b (IntKind.u64.wrap (IntKind.u64.wrap 256 - 1)) = notB 10 b) := by show _ = _; rw [show IntKind.u64.wrap (IntKind.u64.wrap 256 - 1) = 255 from by rw [IntKind.wrap_u64, IntKind.wrap_u64]; decide]; exact xor_10 b h0 g
  go_enter Tryd.func7, Tryd.ntmps7
  go_wp2_with (first | (go_at_call 13; refine (May_of _ _ _ _ h0 h1 (by omega) hs).mono ?_; rintro e w1 ⟨rfl, hb⟩; obtain ⟨z0, z1, q0, q1, q2, q3, q4, q5, q6, HB⟩ := step_box hb; clear hb) | go_in)
  have HB : Hid (Below w.heap.size w w1) := HB
  go_region_held3 (fun w' => w'.cell? ⟨w.heap.size, 0, none⟩ = some (.int .u8 10) ∧ w'.cell? ⟨w.heap.size, 1, none⟩ = some (.int .u64 b) ∧ w'.cell? ⟨w.heap.size, 2, none⟩ = some (.string s)) (go_keep)
    (first | (go_at_call 26; refine (width_10 _).mono ?_; rintro e w2 ⟨rfl, rfl⟩))
  have B := HB.out.drew
  go_wp2
  exact bodyPost_ret (v := .tuple #[V 10 (notB 10 b) E0, .int .i64 0]) (by simp [results, Tryd.results7, go_sem, X.out, q3, q4, q5]) rfl ⟨rfl, ((B.setCell (by simp) _).setCell (by simp) _).setCell (by simp) _⟩
set_option maxHeartbeats 400000 in
theorem width_11 (w : World) : Calls Tryd.prog 26 #[.int .u8 11] w fun e w' => e = .returned (.int .u64 16) ∧ w' = w := by
  go_enter Tryd.func26, Tryd.ntmps26
  go_wp2
  go_ret
  exact ⟨rfl, rfl⟩
theorem xor_11 (b : Int) (h0 : 0 ≤ b) (h1 : b ≤ 65535) : bits .xor .u64 b 65535 = notB 11 b := by
  rw [xor_mask 16 65535 b (by decide) (by omega) h0 h1]; rfl
set_option maxHeartbeats 1000000 in
theorem Turn_n11 (b : Int) (s : ByteArray) (w : World) (h0 : 0 ≤ b) (h1 : b < 18446744073709551616) (hs : s.size ≤ maxLen) (c : may3 11 b s = true) (g : b ≤ 65535) :
    Calls Tryd.prog 7 #[.int .i64 16, V 11 b s] w fun e w' => e = .returned (.tuple #[V 11 (notB 11 b) E0, .int .i64 0]) ∧ Below w.heap.size w w' := by
  have X : Hid (bits .xor .u64 b (IntKind.u64.wrap (IntKind.u64.wrap 65536 - 1)) = notB 11 b) := by show _ = _; rw [show IntKind.u64.wrap (IntKind.u64.wrap 65536 - 1) = 65535 from by rw [IntKind.wrap_u64, IntKind.wrap_u64]; decide]; exact xor_11 b h0 g
  go_enter Tryd.func7, Tryd.ntmps7
  go_wp2_with (first | (go_at_call 13; refine (May_of _ _ _ _ h0 h1 (by omega) hs).mono ?_; rintro e w1 ⟨rfl, hb⟩; obtain ⟨z0, z1, q0, q1, q2, q3, q4, q5, q6, HB⟩ := step_box hb; clear hb) | go_in)
  have HB : Hid (Below w.heap.size w w1) := HB
  go_region_held3 (fun w' => w'.cell? ⟨w.heap.size, 0, none⟩ = some (.int .u8 11) ∧ w'.cell? ⟨w.heap.size, 1, none⟩ = some (.int .u64 b) ∧ w'.cell? ⟨w.heap.size, 2, none⟩ = some (.string s)) (go_keep)
    (first | (go_at_call 26; refine (width_11 _).mono ?_; rintro e w2 ⟨rfl, rfl⟩))
  have B := HB.out.drew
  go_wp2
  exact bodyPost_ret (v := .tuple #[V 11 (notB 11 b) E0, .int .i64 0]) (by simp [results, Tryd.results7, go_sem, X.out, q3, q4, q5]) rfl ⟨rfl, ((B.setCell (by simp) _).setCell (by simp) _).setCell (by simp) _⟩
set_option maxHeartbeats 400000 in
theorem width_12 (w : World) : Calls Tryd.prog 26 #[.int .u8 12] w fun e w' => e = .returned (.int .u64 32) ∧ w' = w := by
  go_enter Tryd.func26, Tryd.ntmps26
  go_wp2
  go_ret
  exact ⟨rfl, rfl⟩
theorem xor_12 (b : Int) (h0 : 0 ≤ b) (h1 : b ≤ 4294967295) : bits .xor .u64 b 4294967295 = notB 12 b := by
  rw [xor_mask 32 4294967295 b (by decide) (by omega) h0 h1]; rfl
set_option maxHeartbeats 1000000 in
theorem Turn_n12 (b : Int) (s : ByteArray) (w : World) (h0 : 0 ≤ b) (h1 : b < 18446744073709551616) (hs : s.size ≤ maxLen) (c : may3 12 b s = true) (g : b ≤ 4294967295) :
    Calls Tryd.prog 7 #[.int .i64 16, V 12 b s] w fun e w' => e = .returned (.tuple #[V 12 (notB 12 b) E0, .int .i64 0]) ∧ Below w.heap.size w w' := by
  have X : Hid (bits .xor .u64 b (IntKind.u64.wrap (IntKind.u64.wrap 4294967296 - 1)) = notB 12 b) := by show _ = _; rw [show IntKind.u64.wrap (IntKind.u64.wrap 4294967296 - 1) = 4294967295 from by rw [IntKind.wrap_u64, IntKind.wrap_u64]; decide]; exact xor_12 b h0 g
  go_enter Tryd.func7, Tryd.ntmps7
  go_wp2_with (first | (go_at_call 13; refine (May_of _ _ _ _ h0 h1 (by omega) hs).mono ?_; rintro e w1 ⟨rfl, hb⟩; obtain ⟨z0, z1, q0, q1, q2, q3, q4, q5, q6, HB⟩ := step_box hb; clear hb) | go_in)
  have HB : Hid (Below w.heap.size w w1) := HB
  go_region_held3 (fun w' => w'.cell? ⟨w.heap.size, 0, none⟩ = some (.int .u8 12) ∧ w'.cell? ⟨w.heap.size, 1, none⟩ = some (.int .u64 b) ∧ w'.cell? ⟨w.heap.size, 2, none⟩ = some (.string s)) (go_keep)
    (first | (go_at_call 26; refine (width_12 _).mono ?_; rintro e w2 ⟨rfl, rfl⟩))
  have B := HB.out.drew
  go_wp2
  exact bodyPost_ret (v := .tuple #[V 12 (notB 12 b) E0, .int .i64 0]) (by simp [results, Tryd.results7, go_sem, X.out, q3, q4, q5]) rfl ⟨rfl, ((B.setCell (by simp) _).setCell (by simp) _).setCell (by simp) _⟩
set_option maxHeartbeats 400000 in
theorem width_13 (w : World) : Calls Tryd.prog 26 #[.int .u8 13] w fun e w' => e = .returned (.int .u64 64) ∧ w' = w := by
  go_enter Tryd.func26, Tryd.ntmps26
  go_wp2
  go_ret
  exact ⟨rfl, rfl⟩
theorem xor_13 (b : Int) (h0 : 0 ≤ b) (h1 : b ≤ 18446744073709551615) : bits .xor .u64 b 18446744073709551615 = notB 13 b := by
  rw [xor_mask 64 18446744073709551615 b (by decide) (by omega) h0 h1]; rfl
set_option maxHeartbeats 1000000 in
theorem Turn_n13 (b : Int) (s : ByteArray) (w : World) (h0 : 0 ≤ b) (h1 : b < 18446744073709551616) (hs : s.size ≤ maxLen) (c : may3 13 b s = true) (g : b ≤ 18446744073709551615) :
    Calls Tryd.prog 7 #[.int .i64 16, V 13 b s] w fun e w' => e = .returned (.tuple #[V 13 (notB 13 b) E0, .int .i64 0]) ∧ Below w.heap.size w w' := by
  have X : Hid (bits .xor .u64 b (IntKind.u64.wrap (IntKind.u64.wrap 18446744073709551616 - 1)) = notB 13 b) := by show _ = _; rw [show IntKind.u64.wrap (IntKind.u64.wrap 18446744073709551616 - 1) = 18446744073709551615 from by rw [IntKind.wrap_u64, IntKind.wrap_u64]; decide]; exact xor_13 b h0 g
  go_enter Tryd.func7, Tryd.ntmps7
  go_wp2_with (first | (go_at_call 13; refine (May_of _ _ _ _ h0 h1 (by omega) hs).mono ?_; rintro e w1 ⟨rfl, hb⟩; obtain ⟨z0, z1, q0, q1, q2, q3, q4, q5, q6, HB⟩ := step_box hb; clear hb) | go_in)
  have HB : Hid (Below w.heap.size w w1) := HB
  go_region_held3 (fun w' => w'.cell? ⟨w.heap.size, 0, none⟩ = some (.int .u8 13) ∧ w'.cell? ⟨w.heap.size, 1, none⟩ = some (.int .u64 b) ∧ w'.cell? ⟨w.heap.size, 2, none⟩ = some (.string s)) (go_keep)
    (first | (go_at_call 26; refine (width_13 _).mono ?_; rintro e w2 ⟨rfl, rfl⟩))
  have B := HB.out.drew
  go_wp2
  exact bodyPost_ret (v := .tuple #[V 13 (notB 13 b) E0, .int .i64 0]) (by simp [results, Tryd.results7, go_sem, X.out, q3, q4, q5]) rfl ⟨rfl, ((B.setCell (by simp) _).setCell (by simp) _).setCell (by simp) _⟩
/-- What a turn of a value comes to. -/
def turnR (op k b : Int) (s : ByteArray) : Value :=
  if may3 k b s = false then .tuple #[V 0 0 E0, .int .i64 8]
  else if op = 15 ∧ (2 ≤ k ∧ k ≤ 5 ∨ k = 14) then (if fitOk k (-num k b) then .tuple #[V k ((-num k b) % 18446744073709551616) E0, .int .i64 0] else .tuple #[V 0 0 E0, .int .i64 1])
  else if op = 15 ∧ k = 18 then .tuple #[V 18 (lrealB (flipN b)) E0, .int .i64 0]
  else if op = 16 ∧ (k = 1 ∨ 10 ≤ k ∧ k ≤ 13) then .tuple #[V k (notB k b) E0, .int .i64 0] else .tuple #[V 0 0 E0, .int .i64 8]
theorem may_wT {k b : Int} {s : ByteArray} (c : may3 k b s = true) (h : ¬ k = 19) : mayW k b = true ∧ s.toList = [] := by
  simp [may3, h] at c; exact ⟨c.2, c.1⟩
theorem Turn_of (h0 : 0 ≤ b) (h1 : b < 18446744073709551616) (hk : 0 ≤ k ∧ k < 256) (hs : s.size ≤ maxLen) :
    Calls Tryd.prog 7 #[.int .i64 op, V k b s] w fun e w' => e = .returned (turnR op k b s) ∧ Below w.heap.size w w' := by
  unfold turnR
  cases c : may3 k b s
  · rw [if_pos rfl]; exact Turn_x op k b s w h0 h1 hk hs c
  rw [if_neg (by simp)]
  by_cases o1 : op = 15
  · subst o1
    by_cases d : 2 ≤ k ∧ k ≤ 5 ∨ k = 14
    · rw [if_pos ⟨rfl, d⟩]
      cases f : fitOk k (-num k b)
      · rw [if_neg (by simp)]
        rcases d with ⟨d1, d2⟩ | rfl
        · exact Turn_neg_no_s k b s w h0 h1 hk hs c d1 d2 f
        · exact Turn_neg_no_t b s w h0 h1 hk hs c f
      · rw [if_pos rfl]
        rcases d with ⟨d1, d2⟩ | rfl
        · exact Turn_neg_yes_s k b s w h0 h1 hk hs c d1 d2 f
        · exact Turn_neg_yes_t b s w h0 h1 hk hs c f
    rw [if_neg (fun h => d h.2)]
    by_cases e : k = 18
    · subst e
      rw [if_pos ⟨rfl, rfl⟩]
      exact Turn_f b s w h0 h1 hs c
    · rw [if_neg (fun h => e h.2), if_neg (by omega)]
      exact Turn_z k b s w h0 h1 hk hs c ⟨fun h => d (.inl h), fun h => d (.inr h), e⟩
  · rw [if_neg (fun h => o1 h.1), if_neg (fun h => o1 h.1)]
    by_cases o2 : op = 16
    · subst o2
      by_cases d : k = 1 ∨ 10 ≤ k ∧ k ≤ 13
      · rw [if_pos ⟨rfl, d⟩]
        have m := (may_wT c (by omega)).1
        have : k = 1 ∨ k = 10 ∨ k = 11 ∨ k = 12 ∨ k = 13 := by omega
        rcases this with rfl | rfl | rfl | rfl | rfl
        · rw [mw1] at m; simp at m; exact Turn_n1 b s w h0 h1 hs c (by omega)
        · rw [mw10] at m; simp at m; exact Turn_n10 b s w h0 h1 hs c (by omega)
        · rw [mw11] at m; simp at m; exact Turn_n11 b s w h0 h1 hs c (by omega)
        · rw [mw12] at m; simp at m; exact Turn_n12 b s w h0 h1 hs c (by omega)
        · exact Turn_n13 b s w h0 h1 hs c (by omega)
      · rw [if_neg (fun h => d h.2)]
        exact Turn_u k b s w h0 h1 hk hs c ⟨fun h => d (.inl h), fun h => d (.inr h)⟩
    · rw [if_neg (fun h => o2 h.1)]
      exact Turn_y op k b s w h0 h1 hk hs c (by simpa using o1) (by simpa using o2)
end
end Go.Proofs.YtfihbpglnnheiaaDoor
