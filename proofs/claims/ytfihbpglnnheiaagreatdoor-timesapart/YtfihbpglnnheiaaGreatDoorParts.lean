/- What both Parts answer, for every kind and value; no statement of the seat is proved here. -/
import Derived.Test.YtfihbpglnnheiaaGreatDoorJoins
namespace Go.Proofs.YtfihbpglnnheiaaGreatDoor
set_option linter.unusedVariables false
open Go.RowKit
/-- The day, or the time of day, of both together. -/
def partB (k b : Int) : Int := if k = 15 then b - b % 86400000000000 else b % 86400000000000
def partOk (k kv b : Int) (s : ByteArray) : Bool := decide (kv = 17 ∧ (k = 15 ∨ k = 16)) && may3 kv b s
abbrev PV (k kv b : Int) (s : ByteArray) : Value := .tuple #[if partOk k kv b s then V k (partB k b) E0 else V 0 0 E0, .bool (partOk k kv b s)]
theorem PV_f {k kv b : Int} {s : ByteArray} (h : partOk k kv b s = false) : Ending.returned (.tuple #[V 0 0 E0, .bool false]) = .returned (PV k kv b s) := by simp [PV, h]
theorem PV_t {k kv b n : Int} {s : ByteArray} (h : partOk k kv b s = true) (e : n = partB k b) : Ending.returned (.tuple #[V k n E0, .bool true]) = .returned (PV k kv b s) := by simp [PV, h, e]
theorem part_a {kv : Int} (k b : Int) (s : ByteArray) (d : (kv != 17) = true) : partOk k kv b s = false := by
  have h : ¬ kv = 17 := by simpa using d
  simp [partOk, h]
theorem part_b {k : Int} (kv b : Int) (s : ByteArray) (d : (k != 15) = true) (f : (k != 16) = true) : partOk k kv b s = false := by
  have h : ¬ k = 15 := by simpa using d
  have g : ¬ k = 16 := by simpa using f
  simp [partOk, h, g]
section
variable (b : Int) (s : ByteArray) (w : World)
set_option maxHeartbeats 1000000 in
theorem fromTime_15 (h0 : 0 ≤ b) (h1 : b < 7258118400000000000) : Calls Tryz.prog 18 #[.int .u8 15, V 17 b s] w fun e w' => e = .returned (.tuple #[V 15 (b - b % 86400000000000) E0, .int .i64 0]) ∧ Below w.heap.size w w' := by
  go_enter Tryz.func18, Tryz.ntmps18
  go_wp2
  exact bodyPost_ret (v := .tuple #[V 15 (b - b % 86400000000000) E0, .int .i64 0]) (by simp [results, Tryz.results18, go_sem]) rfl ⟨rfl, ((Below.refl _ _).alloc (Nat.le_refl _) _).alloc (by simp) _⟩
set_option maxHeartbeats 1000000 in
theorem Convert_no_15 (h0 : 0 ≤ b) (h1 : b < 18446744073709551616) (hs : s.size ≤ maxLen) (m : may3 17 b s = false) : Calls Tryz.prog 8 #[.int .u8 15, V 17 b s] w fun e w' => e = .returned (.tuple #[V 0 0 E0, .int .i64 8]) ∧ Below w.heap.size w w' := by
  have M : Hid _ := m
  clear m
  go_enter Tryz.func8, Tryz.ntmps8
  go_wp2_with (first | (go_at_call 12; refine (May_is _ _ _ _ false h0 h1 (by omega) hs M.out).mono ?_; rintro e w1 ⟨rfl, hb⟩; obtain ⟨z0, z1, q0, q1, q2, q3, q4, q5, q6, HB⟩ := step_box hb; clear hb) | go_in)
  exact bodyPost_ret (v := .tuple #[V 0 0 E0, .int .i64 8]) (by simp [results, Tryz.results8, go_sem, q3, q4, q5]) rfl ⟨rfl, ((HB.setCell (by simp) _).setCell (by simp) _).setCell (by simp) _⟩
set_option maxHeartbeats 1000000 in
theorem Convert_15 (h0 : 0 ≤ b) (h1 : b < 7258118400000000000) (hs : s.size ≤ maxLen) (m : may3 17 b s = true) : Calls Tryz.prog 8 #[.int .u8 15, V 17 b s] w fun e w' => e = .returned (.tuple #[V 15 (b - b % 86400000000000) E0, .int .i64 0]) ∧ Below w.heap.size w w' := by
  have M : Hid _ := m
  clear m
  go_enter Tryz.func8, Tryz.ntmps8
  go_wp2_with (first | (go_at_call 12; refine (May_is _ _ _ _ true h0 (by omega) (by omega) hs M.out).mono ?_; rintro e w1 ⟨rfl, hb⟩; obtain ⟨z0, z1, q0, q1, q2, q3, q4, q5, q6, HB⟩ := step_box hb; clear hb) | (go_at_call 18; refine (fromTime_15 _ _ _ h0 h1).mono ?_; rintro e w2 ⟨rfl, hb2⟩; obtain ⟨y0, y1, n0, n1, n2⟩ := step2 hb2 z0 z1) | go_in)
  exact bodyPost_ret (v := .tuple #[V 15 (b - b % 86400000000000) E0, .int .i64 0]) (by simp [results, Tryz.results8, go_sem, n1, q3, q4, q5]) rfl ⟨rfl, (((HB.trans (hb2.mono (Nat.le_of_lt z0))).setCell (by simp) _).setCell (by simp) _).setCell (by simp) _⟩
set_option maxHeartbeats 1000000 in
theorem fromTime_16 (h0 : 0 ≤ b) (h1 : b < 7258118400000000000) : Calls Tryz.prog 18 #[.int .u8 16, V 17 b s] w fun e w' => e = .returned (.tuple #[V 16 (b % 86400000000000) E0, .int .i64 0]) ∧ Below w.heap.size w w' := by
  go_enter Tryz.func18, Tryz.ntmps18
  go_wp2
  exact bodyPost_ret (v := .tuple #[V 16 (b % 86400000000000) E0, .int .i64 0]) (by simp [results, Tryz.results18, go_sem]) rfl ⟨rfl, ((Below.refl _ _).alloc (Nat.le_refl _) _).alloc (by simp) _⟩
set_option maxHeartbeats 1000000 in
theorem Convert_no_16 (h0 : 0 ≤ b) (h1 : b < 18446744073709551616) (hs : s.size ≤ maxLen) (m : may3 17 b s = false) : Calls Tryz.prog 8 #[.int .u8 16, V 17 b s] w fun e w' => e = .returned (.tuple #[V 0 0 E0, .int .i64 8]) ∧ Below w.heap.size w w' := by
  have M : Hid _ := m
  clear m
  go_enter Tryz.func8, Tryz.ntmps8
  go_wp2_with (first | (go_at_call 12; refine (May_is _ _ _ _ false h0 h1 (by omega) hs M.out).mono ?_; rintro e w1 ⟨rfl, hb⟩; obtain ⟨z0, z1, q0, q1, q2, q3, q4, q5, q6, HB⟩ := step_box hb; clear hb) | go_in)
  exact bodyPost_ret (v := .tuple #[V 0 0 E0, .int .i64 8]) (by simp [results, Tryz.results8, go_sem, q3, q4, q5]) rfl ⟨rfl, ((HB.setCell (by simp) _).setCell (by simp) _).setCell (by simp) _⟩
set_option maxHeartbeats 1000000 in
theorem Convert_16 (h0 : 0 ≤ b) (h1 : b < 7258118400000000000) (hs : s.size ≤ maxLen) (m : may3 17 b s = true) : Calls Tryz.prog 8 #[.int .u8 16, V 17 b s] w fun e w' => e = .returned (.tuple #[V 16 (b % 86400000000000) E0, .int .i64 0]) ∧ Below w.heap.size w w' := by
  have M : Hid _ := m
  clear m
  go_enter Tryz.func8, Tryz.ntmps8
  go_wp2_with (first | (go_at_call 12; refine (May_is _ _ _ _ true h0 (by omega) (by omega) hs M.out).mono ?_; rintro e w1 ⟨rfl, hb⟩; obtain ⟨z0, z1, q0, q1, q2, q3, q4, q5, q6, HB⟩ := step_box hb; clear hb) | (go_at_call 18; refine (fromTime_16 _ _ _ h0 h1).mono ?_; rintro e w2 ⟨rfl, hb2⟩; obtain ⟨y0, y1, n0, n1, n2⟩ := step2 hb2 z0 z1) | go_in)
  exact bodyPost_ret (v := .tuple #[V 16 (b % 86400000000000) E0, .int .i64 0]) (by simp [results, Tryz.results8, go_sem, n1, q3, q4, q5]) rfl ⟨rfl, (((HB.trans (hb2.mono (Nat.le_of_lt z0))).setCell (by simp) _).setCell (by simp) _).setCell (by simp) _⟩
end
section
variable (k kv b : Int) (s : ByteArray) (w : World)
set_option maxHeartbeats 1000000 in
theorem Part_a (d : (kv != 17) = true) : Calls Tryz.prog 4 #[.int .u8 k, V kv b s] w fun e w' => e = .returned (PV k kv b s) ∧ Below w.heap.size w w' := by
  have R : Hid _ := PV_f (part_a k b s d)
  go_enter Tryz.func4, Tryz.ntmps4
  go_wp2
  exact bodyPost_ret (v := .tuple #[V 0 0 E0, .bool false]) (by simp [results, Tryz.results4, go_sem]) rfl ⟨R.out, ((Below.refl _ _).alloc (Nat.le_refl _) _).alloc (by simp) _⟩
set_option maxHeartbeats 1000000 in
theorem Part_b (d : (k != 15) = true) (f : (k != 16) = true) : Calls Tryz.prog 4 #[.int .u8 k, V 17 b s] w fun e w' => e = .returned (PV k 17 b s) ∧ Below w.heap.size w w' := by
  have R : Hid _ := PV_f (part_b 17 b s d f)
  go_enter Tryz.func4, Tryz.ntmps4
  go_wp2
  exact bodyPost_ret (v := .tuple #[V 0 0 E0, .bool false]) (by simp [results, Tryz.results4, go_sem]) rfl ⟨R.out, ((Below.refl _ _).alloc (Nat.le_refl _) _).alloc (by simp) _⟩
set_option maxHeartbeats 1000000 in
theorem Part_no_15 (h0 : 0 ≤ b) (h1 : b < 18446744073709551616) (hs : s.size ≤ maxLen) (m : may3 17 b s = false) : Calls Tryz.prog 4 #[.int .u8 15, V 17 b s] w fun e w' => e = .returned (PV 15 17 b s) ∧ Below w.heap.size w w' := by
  have R : Hid _ := PV_f (k := 15) (kv := 17) (b := b) (s := s) (by simp [partOk, m])
  have M : Hid _ := m
  clear m
  go_enter Tryz.func4, Tryz.ntmps4
  go_wp2_with (first | (go_at_call 8; refine (Convert_no_15 _ _ _ h0 h1 hs M.out).mono ?_; rintro e w1 ⟨rfl, hb⟩; obtain ⟨z0, z1, q0, q1, q2, q3, q4, q5, q6, HB⟩ := step_box hb))
  exact bodyPost_ret (v := .tuple #[V 0 0 E0, .bool false]) (by simp [results, Tryz.results4, go_sem, q3, q4, q5, z1]) rfl ⟨R.out, (((HB.setCell (by simp) _).setCell (by simp) _).setCell (by simp) _).alloc (by simp; omega) _⟩
set_option maxHeartbeats 1000000 in
theorem Part_15 (h0 : 0 ≤ b) (h1 : b < 7258118400000000000) (hs : s.size ≤ maxLen) (m : may3 17 b s = true) : Calls Tryz.prog 4 #[.int .u8 15, V 17 b s] w fun e w' => e = .returned (PV 15 17 b s) ∧ Below w.heap.size w w' := by
  have R : Hid _ := PV_t (k := 15) (kv := 17) (b := b) (n := b - b % 86400000000000) (s := s) (by simp [partOk, m]) (by simp [partB])
  have M : Hid _ := m
  clear m
  go_enter Tryz.func4, Tryz.ntmps4
  go_wp2_with (first | (go_at_call 8; refine (Convert_15 _ _ _ h0 h1 hs M.out).mono ?_; rintro e w1 ⟨rfl, hb⟩; obtain ⟨z0, z1, q0, q1, q2, q3, q4, q5, q6, HB⟩ := step_box hb))
  exact bodyPost_ret (v := .tuple #[V 15 (b - b % 86400000000000) E0, .bool true]) (by simp [results, Tryz.results4, go_sem, q3, q4, q5, z1]) rfl ⟨R.out, (((HB.setCell (by simp) _).setCell (by simp) _).setCell (by simp) _).alloc (by simp; omega) _⟩
set_option maxHeartbeats 1000000 in
theorem Part_no_16 (h0 : 0 ≤ b) (h1 : b < 18446744073709551616) (hs : s.size ≤ maxLen) (m : may3 17 b s = false) : Calls Tryz.prog 4 #[.int .u8 16, V 17 b s] w fun e w' => e = .returned (PV 16 17 b s) ∧ Below w.heap.size w w' := by
  have R : Hid _ := PV_f (k := 16) (kv := 17) (b := b) (s := s) (by simp [partOk, m])
  have M : Hid _ := m
  clear m
  go_enter Tryz.func4, Tryz.ntmps4
  go_wp2_with (first | (go_at_call 8; refine (Convert_no_16 _ _ _ h0 h1 hs M.out).mono ?_; rintro e w1 ⟨rfl, hb⟩; obtain ⟨z0, z1, q0, q1, q2, q3, q4, q5, q6, HB⟩ := step_box hb))
  exact bodyPost_ret (v := .tuple #[V 0 0 E0, .bool false]) (by simp [results, Tryz.results4, go_sem, q3, q4, q5, z1]) rfl ⟨R.out, (((HB.setCell (by simp) _).setCell (by simp) _).setCell (by simp) _).alloc (by simp; omega) _⟩
set_option maxHeartbeats 1000000 in
theorem Part_16 (h0 : 0 ≤ b) (h1 : b < 7258118400000000000) (hs : s.size ≤ maxLen) (m : may3 17 b s = true) : Calls Tryz.prog 4 #[.int .u8 16, V 17 b s] w fun e w' => e = .returned (PV 16 17 b s) ∧ Below w.heap.size w w' := by
  have R : Hid _ := PV_t (k := 16) (kv := 17) (b := b) (n := b % 86400000000000) (s := s) (by simp [partOk, m]) (by simp [partB])
  have M : Hid _ := m
  clear m
  go_enter Tryz.func4, Tryz.ntmps4
  go_wp2_with (first | (go_at_call 8; refine (Convert_16 _ _ _ h0 h1 hs M.out).mono ?_; rintro e w1 ⟨rfl, hb⟩; obtain ⟨z0, z1, q0, q1, q2, q3, q4, q5, q6, HB⟩ := step_box hb))
  exact bodyPost_ret (v := .tuple #[V 16 (b % 86400000000000) E0, .bool true]) (by simp [results, Tryz.results4, go_sem, q3, q4, q5, z1]) rfl ⟨R.out, (((HB.setCell (by simp) _).setCell (by simp) _).setCell (by simp) _).alloc (by simp; omega) _⟩
theorem dt_lt {b : Int} {s : ByteArray} (m : may3 17 b s = true) : b < 7258118400000000000 := by
  simp [may3, mw17] at m; exact m.2
theorem Part_of (h0 : 0 ≤ b) (h1 : b < 18446744073709551616) (hs : s.size ≤ maxLen) : Calls Tryz.prog 4 #[.int .u8 k, V kv b s] w fun e w' => e = .returned (PV k kv b s) ∧ Below w.heap.size w w' := by
  by_cases d : kv = 17
  · subst d
    by_cases e : k = 15
    · subst e
      cases m : may3 17 b s
      · exact Part_no_15 b s w h0 h1 hs m
      · exact Part_15 b s w h0 (dt_lt m) hs m
    by_cases f : k = 16
    · subst f
      cases m : may3 17 b s
      · exact Part_no_16 b s w h0 h1 hs m
      · exact Part_16 b s w h0 (dt_lt m) hs m
    · exact Part_b k b s w (by simpa using e) (by simpa using f)
  · exact Part_a k kv b s w (by simpa using d)
end
end Go.Proofs.YtfihbpglnnheiaaGreatDoor
