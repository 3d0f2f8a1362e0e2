/- What value.Turn answers, for every operation and value; no statement of the seat is proved here. -/
import Derived.Test.YtkanhbokdjppoaaGreatDoorFitted
import Derived.Deep.RegionHeld3
namespace Go.Proofs.YtkanhbokdjppoaaGreatDoor
set_option linter.unusedVariables false
open Go.RowKit
/-- What a call that only makes memory leaves of two old blocks. -/
theorem step2 {W w2 : World} {h : Nat} (hb : Below W.heap.size W w2) (z0 : h < W.heap.size) (z1 : h + 1 < W.heap.size) :
    h < w2.heap.size ∧ h + 1 < w2.heap.size ∧ (∀ o, w2.cell? ⟨h, o, none⟩ = W.cell? ⟨h, o, none⟩) ∧ (∀ o, w2.cell? ⟨h + 1, o, none⟩ = W.cell? ⟨h + 1, o, none⟩) ∧ (∀ o, w2.frozen? ⟨h + 1, o, none⟩ = W.frozen? ⟨h + 1, o, none⟩) :=
  ⟨Nat.lt_of_lt_of_le z0 hb.size, Nat.lt_of_lt_of_le z1 hb.size, fun o => hb.cell (p := ⟨h, o, none⟩) z0, fun o => hb.cell (p := ⟨h + 1, o, none⟩) z1, fun o => hb.frozen (p := ⟨h + 1, o, none⟩) z1⟩
theorem step_drewT {w1 : World} {h : Nat} (z : h < w1.heap.size) : h < w1.drew.heap.size := z
/-- The two boxes with which such a function begins, behind its first call. -/
theorem step_box {w w1 : World} {k b : Int} {s : ByteArray} {t u : TypeId} (hb : Below ((w.alloc (.cells #[.int .u8 k, .int .u64 b, .string s] t)).alloc (.cells #[.int .u8 0, .int .u64 0, .string ⟨#[]⟩] u)).heap.size ((w.alloc (.cells #[.int .u8 k, .int .u64 b, .string s] t)).alloc (.cells #[.int .u8 0, .int .u64 0, .string ⟨#[]⟩] u)) w1) :
    w.heap.size < w1.heap.size ∧ w.heap.size + 1 < w1.heap.size ∧ w1.cell? ⟨w.heap.size, 0, none⟩ = some (.int .u8 k) ∧ w1.cell? ⟨w.heap.size, 1, none⟩ = some (.int .u64 b) ∧ w1.cell? ⟨w.heap.size, 2, none⟩ = some (.string s) ∧
    w1.cell? ⟨w.heap.size + 1, 0, none⟩ = some (.int .u8 0) ∧ w1.cell? ⟨w.heap.size + 1, 1, none⟩ = some (.int .u64 0) ∧ w1.cell? ⟨w.heap.size + 1, 2, none⟩ = some (.string ⟨#[]⟩) ∧
    (∀ o, w1.frozen? ⟨w.heap.size + 1, o, none⟩ = false) ∧ Below w.heap.size w w1 := by
  have hs := hb.size
  simp only [World.size_alloc] at hs
  refine ⟨by omega, by omega, ?_, ?_, ?_, ?_, ?_, ?_, ?_, (((Below.refl _ _).alloc (Nat.le_refl _) _).alloc (by simp) _).trans (hb.mono (by simp; omega))⟩
  · rw [hb.cell (p := ⟨w.heap.size, 0, none⟩) (by simp; omega)]; simp
  · rw [hb.cell (p := ⟨w.heap.size, 1, none⟩) (by simp; omega)]; simp
  · rw [hb.cell (p := ⟨w.heap.size, 2, none⟩) (by simp; omega)]; simp
  · rw [hb.cell (p := ⟨w.heap.size + 1, 0, none⟩) (by simp)]; simp
  · rw [hb.cell (p := ⟨w.heap.size + 1, 1, none⟩) (by simp)]; simp
  · rw [hb.cell (p := ⟨w.heap.size + 1, 2, none⟩) (by simp)]; simp
  · intro o
    rw [hb.frozen (p := ⟨w.heap.size + 1, o, none⟩) (by simp)]; simp
theorem fitted_yes (k n fault : Int) (w : World) (hk : 0 ≤ k ∧ k < 256) (g : -18446744073709551616 < n ∧ n < 18446744073709551616) (h : fitOk k n = true) :
    Calls Tryz.prog 148 #[.int .u8 k, NB n, .int .i64 fault] w fun e w' => e = .returned (.tuple #[V k (n % 18446744073709551616) E0, .int .i64 0]) ∧ Below w.heap.size w w' := by
  have := fitted_of k n fault w hk g
  rwa [← RV_t h] at this
theorem fitted_no (k n fault : Int) (w : World) (hk : 0 ≤ k ∧ k < 256) (g : -18446744073709551616 < n ∧ n < 18446744073709551616) (h : fitOk k n = false) :
    Calls Tryz.prog 148 #[.int .u8 k, NB n, .int .i64 fault] w fun e w' => e = .returned (.tuple #[V 0 0 E0, .int .i64 fault]) ∧ Below w.heap.size w w' := by
  have := fitted_of k n fault w hk g
  rwa [← RV_f h] at this
set_option maxHeartbeats 1000000 in
theorem Turn_neg_yes_s (k b : Int) (s : ByteArray) (w : World) (h0 : 0 ≤ b) (h1 : b < 18446744073709551616) (hk : 0 ≤ (k : Int) ∧ (k : Int) < 256) (hs : s.size ≤ maxLen) (c : may3 k b s = true) (d1 : 2 ≤ k) (d2 : k ≤ 5) (f : fitOk k (-num k b) = true) :
    Calls Tryz.prog 103 #[.int .i64 15, V k b s] w fun e w' => e = .returned (.tuple #[V k ((-num k b) % 18446744073709551616) E0, .int .i64 0]) ∧ Below w.heap.size w w' := by
  have g : Hid (-18446744073709551616 < -num k b ∧ -num k b < 18446744073709551616) := by have := num_bd k b h0 h1; show _ ∧ _; omega
  have F : Hid (fitOk k (-num k b) = true) := f
  clear f
  go_enter Tryz.func103, Tryz.ntmps103
  go_wp2_with (first | (go_at_call 52; refine (May_of _ _ _ _ h0 h1 hk hs).mono ?_; rintro e w1 ⟨rfl, hb⟩; obtain ⟨z0, z1, q0, q1, q2, q3, q4, q5, q6, HB⟩ := step_box hb; clear hb) | go_in)
  have HB : Hid (Below w.heap.size w w1) := HB
  go_region_held3 (fun w' => w'.cell? ⟨w.heap.size, 0, none⟩ = some (.int .u8 k) ∧ w'.cell? ⟨w.heap.size, 1, none⟩ = some (.int .u64 b) ∧ w'.cell? ⟨w.heap.size, 2, none⟩ = some (.string s)) (go_keep)
    (first | (go_at_call 147; refine (numberOf_of _ _ _ _ h0 h1).mono ?_; rintro e w2 ⟨rfl, hb2⟩; obtain ⟨y0, y1, n0, n1, n2⟩ := step2 hb2 (step_drewT z0) (step_drewT z1)) | (go_at_call 150; refine (opposite_of _ _).mono ?_; rintro e w3 ⟨rfl, hb3⟩; obtain ⟨x0, x1, m0, m1, m2⟩ := step2 hb3 y0 y1) | (go_at_call 148; refine (fitted_yes _ _ _ _ hk g.out F.out).mono ?_; rintro e w4 ⟨rfl, hb4⟩; obtain ⟨u0, u1, l0, l1, l2⟩ := step2 hb4 x0 x1))
  have B := (((HB.out.drew).trans (hb2.mono (Nat.le_of_lt z0))).trans (hb3.mono (Nat.le_of_lt y0))).trans (hb4.mono (Nat.le_of_lt x0))
  go_wp2
  exact bodyPost_ret (v := .tuple #[V k ((-num k b) % 18446744073709551616) E0, .int .i64 0]) (by simp [results, Tryz.results103, go_sem, l1, m1, n1, q3, q4, q5]) rfl ⟨rfl, ((B.setCell (by simp) _).setCell (by simp) _).setCell (by simp) _⟩
set_option maxHeartbeats 1000000 in
theorem Turn_neg_yes_t (b : Int) (s : ByteArray) (w : World) (h0 : 0 ≤ b) (h1 : b < 18446744073709551616) (hk : 0 ≤ (14 : Int) ∧ (14 : Int) < 256) (hs : s.size ≤ maxLen) (c : may3 14 b s = true) (f : fitOk 14 (-num 14 b) = true) :
    Calls Tryz.prog 103 #[.int .i64 15, V 14 b s] w fun e w' => e = .returned (.tuple #[V 14 ((-num 14 b) % 18446744073709551616) E0, .int .i64 0]) ∧ Below w.heap.size w w' := by
  have g : Hid (-18446744073709551616 < -num 14 b ∧ -num 14 b < 18446744073709551616) := by have := num_bd 14 b h0 h1; show _ ∧ _; omega
  have F : Hid (fitOk 14 (-num 14 b) = true) := f
  clear f
  go_enter Tryz.func103, Tryz.ntmps103
  go_wp2_with (first | (go_at_call 52; refine (May_of _ _ _ _ h0 h1 hk hs).mono ?_; rintro e w1 ⟨rfl, hb⟩; obtain ⟨z0, z1, q0, q1, q2, q3, q4, q5, q6, HB⟩ := step_box hb; clear hb) | go_in)
  have HB : Hid (Below w.heap.size w w1) := HB
  go_region_held3 (fun w' => w'.cell? ⟨w.heap.size, 0, none⟩ = some (.int .u8 14) ∧ w'.cell? ⟨w.heap.size, 1, none⟩ = some (.int .u64 b) ∧ w'.cell? ⟨w.heap.size, 2, none⟩ = some (.string s)) (go_keep)
    (first | (go_at_call 147; refine (numberOf_of _ _ _ _ h0 h1).mono ?_; rintro e w2 ⟨rfl, hb2⟩; obtain ⟨y0, y1, n0, n1, n2⟩ := step2 hb2 (step_drewT z0) (step_drewT z1)) | (go_at_call 150; refine (opposite_of _ _).mono ?_; rintro e w3 ⟨rfl, hb3⟩; obtain ⟨x0, x1, m0, m1, m2⟩ := step2 hb3 y0 y1) | (go_at_call 148; refine (fitted_yes _ _ _ _ hk g.out F.out).mono ?_; rintro e w4 ⟨rfl, hb4⟩; obtain ⟨u0, u1, l0, l1, l2⟩ := step2 hb4 x0 x1))
  have B := (((HB.out.drew).trans (hb2.mono (Nat.le_of_lt z0))).trans (hb3.mono (Nat.le_of_lt y0))).trans (hb4.mono (Nat.le_of_lt x0))
  go_wp2
  exact bodyPost_ret (v := .tuple #[V 14 ((-num 14 b) % 18446744073709551616) E0, .int .i64 0]) (by simp [results, Tryz.results103, go_sem, l1, m1, n1, q3, q4, q5]) rfl ⟨rfl, ((B.setCell (by simp) _).setCell (by simp) _).setCell (by simp) _⟩
set_option maxHeartbeats 1000000 in
theorem Turn_neg_no_s (k b : Int) (s : ByteArray) (w : World) (h0 : 0 ≤ b) (h1 : b < 18446744073709551616) (hk : 0 ≤ (k : Int) ∧ (k : Int) < 256) (hs : s.size ≤ maxLen) (c : may3 k b s = true) (d1 : 2 ≤ k) (d2 : k ≤ 5) (f : fitOk k (-num k b) = false) :
    Calls Tryz.prog 103 #[.int .i64 15, V k b s] w fun e w' => e = .returned (.tuple #[V 0 0 E0, .int .i64 1]) ∧ Below w.heap.size w w' := by
  have g : Hid (-18446744073709551616 < -num k b ∧ -num k b < 18446744073709551616) := by have := num_bd k b h0 h1; show _ ∧ _; omega
  have F : Hid (fitOk k (-num k b) = false) := f
  clear f
  go_enter Tryz.func103, Tryz.ntmps103
  go_wp2_with (first | (go_at_call 52; refine (May_of _ _ _ _ h0 h1 hk hs).mono ?_; rintro e w1 ⟨rfl, hb⟩; obtain ⟨z0, z1, q0, q1, q2, q3, q4, q5, q6, HB⟩ := step_box hb; clear hb) | go_in)
  have HB : Hid (Below w.heap.size w w1) := HB
  go_region_held3 (fun w' => w'.cell? ⟨w.heap.size, 0, none⟩ = some (.int .u8 k) ∧ w'.cell? ⟨w.heap.size, 1, none⟩ = some (.int .u64 b) ∧ w'.cell? ⟨w.heap.size, 2, none⟩ = some (.string s)) (go_keep)
    (first | (go_at_call 147; refine (numberOf_of _ _ _ _ h0 h1).mono ?_; rintro e w2 ⟨rfl, hb2⟩; obtain ⟨y0, y1, n0, n1, n2⟩ := step2 hb2 (step_drewT z0) (step_drewT z1)) | (go_at_call 150; refine (opposite_of _ _).mono ?_; rintro e w3 ⟨rfl, hb3⟩; obtain ⟨x0, x1, m0, m1, m2⟩ := step2 hb3 y0 y1) | (go_at_call 148; refine (fitted_no _ _ _ _ hk g.out F.out).mono ?_; rintro e w4 ⟨rfl, hb4⟩; obtain ⟨u0, u1, l0, l1, l2⟩ := step2 hb4 x0 x1))
  have B := (((HB.out.drew).trans (hb2.mono (Nat.le_of_lt z0))).trans (hb3.mono (Nat.le_of_lt y0))).trans (hb4.mono (Nat.le_of_lt x0))
  go_wp2
  exact bodyPost_ret (v := .tuple #[V 0 0 E0, .int .i64 1]) (by simp [results, Tryz.results103, go_sem, l1, m1, n1, q3, q4, q5]) rfl ⟨rfl, ((B.setCell (by simp) _).setCell (by simp) _).setCell (by simp) _⟩
set_option maxHeartbeats 1000000 in
theorem Turn_neg_no_t (b : Int) (s : ByteArray) (w : World) (h0 : 0 ≤ b) (h1 : b < 18446744073709551616) (hk : 0 ≤ (14 : Int) ∧ (14 : Int) < 256) (hs : s.size ≤ maxLen) (c : may3 14 b s = true) (f : fitOk 14 (-num 14 b) = false) :
    Calls Tryz.prog 103 #[.int .i64 15, V 14 b s] w fun e w' => e = .returned (.tuple #[V 0 0 E0, .int .i64 1]) ∧ Below w.heap.size w w' := by
  have g : Hid (-18446744073709551616 < -num 14 b ∧ -num 14 b < 18446744073709551616) := by have := num_bd 14 b h0 h1; show _ ∧ _; omega
  have F : Hid (fitOk 14 (-num 14 b) = false) := f
  clear f
  go_enter Tryz.func103, Tryz.ntmps103
  go_wp2_with (first | (go_at_call 52; refine (May_of _ _ _ _ h0 h1 hk hs).mono ?_; rintro e w1 ⟨rfl, hb⟩; obtain ⟨z0, z1, q0, q1, q2, q3, q4, q5, q6, HB⟩ := step_box hb; clear hb) | go_in)
  have HB : Hid (Below w.heap.size w w1) := HB
  go_region_held3 (fun w' => w'.cell? ⟨w.heap.size, 0, none⟩ = some (.int .u8 14) ∧ w'.cell? ⟨w.heap.size, 1, none⟩ = some (.int .u64 b) ∧ w'.cell? ⟨w.heap.size, 2, none⟩ = some (.string s)) (go_keep)
    (first | (go_at_call 147; refine (numberOf_of _ _ _ _ h0 h1).mono ?_; rintro e w2 ⟨rfl, hb2⟩; obtain ⟨y0, y1, n0, n1, n2⟩ := step2 hb2 (step_drewT z0) (step_drewT z1)) | (go_at_call 150; refine (opposite_of _ _).mono ?_; rintro e w3 ⟨rfl, hb3⟩; obtain ⟨x0, x1, m0, m1, m2⟩ := step2 hb3 y0 y1) | (go_at_call 148; refine (fitted_no _ _ _ _ hk g.out F.out).mono ?_; rintro e w4 ⟨rfl, hb4⟩; obtain ⟨u0, u1, l0, l1, l2⟩ := step2 hb4 x0 x1))
  have B := (((HB.out.drew).trans (hb2.mono (Nat.le_of_lt z0))).trans (hb3.mono (Nat.le_of_lt y0))).trans (hb4.mono (Nat.le_of_lt x0))
  go_wp2
  exact bodyPost_ret (v := .tuple #[V 0 0 E0, .int .i64 1]) (by simp [results, Tryz.results103, go_sem, l1, m1, n1, q3, q4, q5]) rfl ⟨rfl, ((B.setCell (by simp) _).setCell (by simp) _).setCell (by simp) _⟩
end Go.Proofs.YtkanhbokdjppoaaGreatDoor
