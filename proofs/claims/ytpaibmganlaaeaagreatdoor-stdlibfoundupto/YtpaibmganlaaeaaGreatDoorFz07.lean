/- What the document's Result answers; no statement of the seat is proved here. -/
import Derived.Test.YtpaibmganlaaeaaGreatDoorFz06
import Derived.Test.YtpaibmganlaaeaaGreatDoorFz04
import Derived.Handy
import Derived.Deep.Light
namespace Go.Proofs.YtpaibmganlaaeaaGreatDoor
set_option linter.unusedVariables false
open Go.RowKit
section
variable (op k b k' c : Int) (s t : ByteArray) (w : World)
set_option maxHeartbeats 4000000 in
theorem Reckon_ay (h0 : 0 ≤ b) (h1 : b < 18446744073709551616) (hk : 0 ≤ k ∧ k < 256) (hs : s.size ≤ maxLen) (g0 : 0 ≤ c) (g1 : c < 18446744073709551616) (gs : t.size ≤ maxLen) (m : may3 k b s = true) (n : may3 k c t = true) (o5 : op ≤ 5) (k18 : (k == 18) = false) (HB0 : Hid (∀ w, Calls Tryz.prog 125 #[.int .u8 k] w fun e w' => e = .returned (.bool false) ∧ w' = w)) {kk : Int} (kz : (kk == 0) = false) (O : Hid (∀ w, Calls Tryz.prog 127 #[.int .i64 op, .int .u8 k, .int .u8 k] w fun e w' => e = .returned (.int .u8 kk) ∧ w' = w)) {n' K B' f : Int} (R : Hid (∀ w, Calls Tryz.prog 128 #[.int .i64 op, NB (num k b), NB (num k c)] w fun e w' => e = .returned (.tuple #[NB n', .int .i64 0]) ∧ Below w.heap.size w w')) (F : Hid (∀ w, Calls Tryz.prog 130 #[.int .u8 kk, NB n', .int .i64 1] w fun e w' => e = .returned (.tuple #[V K B' E0, .int .i64 f]) ∧ Below w.heap.size w w')) :
    Calls Tryz.prog 86 #[.int .i64 op, V k b s, V k c t] w fun e w' => e = .returned (.tuple #[V K B' E0, .int .i64 f]) ∧ Below w.heap.size w w' := by
  have M : Hid _ := m
  have N : Hid _ := n
  clear m n
  go_enter Tryz.func86, Tryz.ntmps86
  go_wp2_with fail
  refine (May_is _ _ _ _ true h0 h1 hk hs M.out).mono ?_
  rintro e w1 ⟨rfl, hb⟩
  obtain ⟨z, a0, a1, a2, a3, a4, a5, a6, a7, a8, a9, HB⟩ := step_ab0 hb
  clear hb
  go_wp2_with fail
  refine (May_is _ _ _ _ true g0 g1 hk gs N.out).mono ?_
  rintro e w2 ⟨rfl, hb2⟩
  obtain ⟨y, n0, n1, n2, n3⟩ := step3 hb2 z
  have q1 : ¬ w.heap.size + 1 + 1 = w.heap.size := by omega
  have y3 := hb2.size
  go_wp2_with (first | (go_at_call 127; refine (O.out _).mono ?_; rintro e w3 ⟨rfl, rfl⟩) | (go_at_call 125; refine (HB0.out _).mono ?_; rintro e w9 ⟨rfl, rfl⟩))
  have e1 := World.new_ne w3 ⟨w.heap.size, 0, none⟩ ((n0 0).trans a0)
  have e2 := World.new_ne w3 ⟨w.heap.size + 1, 0, none⟩ ((n1 0).trans a3)
  have e3 := World.new_ne w3 ⟨w.heap.size + 1 + 1, 0, none⟩ ((n2 0).trans a6)
  go_region_held3 (fun w' => w'.cell? ⟨w.heap.size, 0, none⟩ = some (.int .u8 k) ∧ w'.cell? ⟨w.heap.size, 1, none⟩ = some (.int .u64 b) ∧ w'.cell? ⟨w.heap.size, 2, none⟩ = some (.string s) ∧ w'.cell? ⟨w.heap.size + 1, 0, none⟩ = some (.int .u8 k) ∧ w'.cell? ⟨w.heap.size + 1, 1, none⟩ = some (.int .u64 c) ∧ w'.cell? ⟨w.heap.size + 1, 2, none⟩ = some (.string t)) (go_keep)
    (first | (go_at_call_of 129 s; refine (numberOf_of k b s _ h0 h1).mono ?_; rintro e w4 ⟨rfl, hb4⟩; obtain ⟨c4, f4⟩ := bcell hb4; have s4 := hb4.size; (try simp at s4); obtain ⟨x4, m0, m1, m2, m3⟩ := step3 hb4 (h := w.heap.size) (by first | omega | (simp; omega)); have d4 : ¬ w4.heap.size = w.heap.size := (by omega); have d4' : ¬ w4.heap.size = w.heap.size + 1 := (by omega); have d4'' : ¬ w4.heap.size = w.heap.size + 1 + 1 := (by omega); (try have u4 : w3.heap.size < w4.heap.size := (by omega)); have y4 : w1.heap.size ≤ w4.heap.size := (by omega); have B4 : Below w1.heap.size w1 w4 := (by first | exact (hb2.drew).trans (hb4.mono (by first | omega | (simp; omega))) | exact ((hb2.drew).alloc (by first | omega | (simp; omega)) _).trans (hb4.mono (by first | omega | (simp; omega))) | exact ((hb2.alloc (by first | omega | (simp; omega)) _).drew).trans (hb4.mono (by first | omega | (simp; omega))))) | (go_at_call_of 129 t; refine (numberOf_of k c t _ g0 g1).mono ?_; rintro e w5 ⟨rfl, hb5⟩; obtain ⟨c5, f5⟩ := bcell hb5; have s5 := hb5.size; (try simp at s5); obtain ⟨x5, l0, l1, l2, l3⟩ := step3 hb5 (h := w.heap.size) (by first | omega | (simp; omega)); have d5 : ¬ w5.heap.size = w.heap.size := (by omega); have d5' : ¬ w5.heap.size = w.heap.size + 1 := (by omega); have d5'' : ¬ w5.heap.size = w.heap.size + 1 + 1 := (by omega); (try have t5 : w3.heap.size < w5.heap.size := (by omega)); (try have u5 : w4.heap.size < w5.heap.size := (by omega)); have y5 : w1.heap.size ≤ w5.heap.size := (by omega); have B5 : Below w1.heap.size w1 w5 := (by first | exact (B4).trans (hb5.mono (by first | omega | (simp; omega))) | exact ((B4).alloc (by first | omega | (simp; omega)) _).trans (hb5.mono (by first | omega | (simp; omega))) | exact ((hb2.alloc (by first | omega | (simp; omega)) _).drew).trans (hb5.mono (by first | omega | (simp; omega))))) | (go_at_call 128; refine (R.out _).mono ?_; rintro e w6 ⟨rfl, hb6⟩; obtain ⟨c6, f6⟩ := bcell hb6; have s6 := hb6.size; (try simp at s6); obtain ⟨x6, p0, p1, p2, p3⟩ := step3 hb6 (h := w.heap.size) (by first | omega | (simp; omega)); have y6 : w1.heap.size ≤ w6.heap.size := (by omega); have B6 : Below w1.heap.size w1 w6 := (by first | exact (B5).trans (hb6.mono (by first | omega | (simp; omega))) | exact ((B5).alloc (by first | omega | (simp; omega)) _).trans (hb6.mono (by first | omega | (simp; omega))) | exact ((hb2.alloc (by first | omega | (simp; omega)) _).drew).trans (hb6.mono (by first | omega | (simp; omega))))))
  all_goals
    go_wp2_with (first | (go_at_call 130; refine (F.out _).mono ?_; rintro e w7 ⟨rfl, hb7⟩; obtain ⟨x7, r0, r1, r2, r3⟩ := step3 hb7 (h := w.heap.size) (by first | omega | (simp; omega))))
    have C7 : Below w1.heap.size w1 w7 := by first | exact ((B6.setCell (by first | omega | (simp; omega)) _).setCell (by first | omega | (simp; omega)) _).trans (hb7.mono (by first | omega | (simp; omega))) | exact (B6.alloc (by first | omega | (simp; omega)) _).trans (hb7.mono (by first | omega | (simp; omega)))
    have v0 := (C7.cell (p := ⟨w.heap.size + 1 + 1, 0, none⟩) z).trans a6
    have v1 := (C7.cell (p := ⟨w.heap.size + 1 + 1, 1, none⟩) z).trans a7
    have v2 := (C7.cell (p := ⟨w.heap.size + 1 + 1, 2, none⟩) z).trans a8
    have B7 : Below w.heap.size w w7 := HB.trans (C7.mono (by omega))
    refine bodyPost_ret (v := .tuple #[V K B' E0, .int .i64 f]) (by simp [results, Tryz.results86, go_sem, v0, v1, v2]) rfl ⟨rfl, ?_⟩
    go_grown
end
end Go.Proofs.YtpaibmganlaaeaaGreatDoor
namespace Go.Proofs.YtpaibmganlaaeaaGreatDoor
set_option linter.unusedVariables false
open Go.RowKit
theorem three_set4 {W : World} {h : Nat} {x y z : Value} (v0 : W.cell? ⟨h, 0, none⟩ = some x) (v1 : W.cell? ⟨h, 1, none⟩ = some y) (v2 : W.cell? ⟨h, 2, none⟩ = some z) (a b c : Value) :
    (((W.setCell ⟨h, 0, none⟩ a).setCell ⟨h, 1, none⟩ b).setCell ⟨h, 2, none⟩ c).cell? ⟨h, 0, none⟩ = some a ∧ (((W.setCell ⟨h, 0, none⟩ a).setCell ⟨h, 1, none⟩ b).setCell ⟨h, 2, none⟩ c).cell? ⟨h, 1, none⟩ = some b ∧ (((W.setCell ⟨h, 0, none⟩ a).setCell ⟨h, 1, none⟩ b).setCell ⟨h, 2, none⟩ c).cell? ⟨h, 2, none⟩ = some c := by
  refine ⟨?_, ?_, ?_⟩ <;> simp [go_sem, v0, v1, v2]
section
variable (op k b k' c : Int) (s t : ByteArray) (w : World)
set_option maxHeartbeats 4000000 in
theorem Reckon_an (h0 : 0 ≤ b) (h1 : b < 18446744073709551616) (hk : 0 ≤ k ∧ k < 256) (hs : s.size ≤ maxLen) (g0 : 0 ≤ c) (g1 : c < 18446744073709551616) (gs : t.size ≤ maxLen) (m : may3 k b s = true) (n : may3 k c t = true) (o5 : op ≤ 5) (k18 : (k == 18) = false) (HB0 : Hid (∀ w, Calls Tryz.prog 125 #[.int .u8 k] w fun e w' => e = .returned (.bool false) ∧ w' = w)) {kk : Int} (kz : (kk == 0) = false) (O : Hid (∀ w, Calls Tryz.prog 127 #[.int .i64 op, .int .u8 k, .int .u8 k] w fun e w' => e = .returned (.int .u8 kk) ∧ w' = w)) {f : Int} (fz : (f != 0) = true) (R : Hid (∀ w, Calls Tryz.prog 128 #[.int .i64 op, NB (num k b), NB (num k c)] w fun e w' => e = .returned (.tuple #[N0, .int .i64 f]) ∧ Below w.heap.size w w')) :
    Calls Tryz.prog 86 #[.int .i64 op, V k b s, V k c t] w fun e w' => e = .returned (.tuple #[V 0 0 E0, .int .i64 f]) ∧ Below w.heap.size w w' := by
  have M : Hid _ := m
  have N : Hid _ := n
  clear m n
  go_enter Tryz.func86, Tryz.ntmps86
  go_wp2_with fail
  refine (May_is _ _ _ _ true h0 h1 hk hs M.out).mono ?_
  rintro e w1 ⟨rfl, hb⟩
  obtain ⟨z, a0, a1, a2, a3, a4, a5, a6, a7, a8, a9, HB⟩ := step_ab0 hb
  clear hb
  go_wp2_with fail
  refine (May_is _ _ _ _ true g0 g1 hk gs N.out).mono ?_
  rintro e w2 ⟨rfl, hb2⟩
  obtain ⟨y, n0, n1, n2, n3⟩ := step3 hb2 z
  have q1 : ¬ w.heap.size + 1 + 1 = w.heap.size := by omega
  have y3 := hb2.size
  go_wp2_with (first | (go_at_call 127; refine (O.out _).mono ?_; rintro e w3 ⟨rfl, rfl⟩) | (go_at_call 125; refine (HB0.out _).mono ?_; rintro e w9 ⟨rfl, rfl⟩))
  have e1 := World.new_ne w3 ⟨w.heap.size, 0, none⟩ ((n0 0).trans a0)
  have e2 := World.new_ne w3 ⟨w.heap.size + 1, 0, none⟩ ((n1 0).trans a3)
  have e3 := World.new_ne w3 ⟨w.heap.size + 1 + 1, 0, none⟩ ((n2 0).trans a6)
  go_region_held3 (fun w' => w'.cell? ⟨w.heap.size, 0, none⟩ = some (.int .u8 k) ∧ w'.cell? ⟨w.heap.size, 1, none⟩ = some (.int .u64 b) ∧ w'.cell? ⟨w.heap.size, 2, none⟩ = some (.string s) ∧ w'.cell? ⟨w.heap.size + 1, 0, none⟩ = some (.int .u8 k) ∧ w'.cell? ⟨w.heap.size + 1, 1, none⟩ = some (.int .u64 c) ∧ w'.cell? ⟨w.heap.size + 1, 2, none⟩ = some (.string t)) (go_keep)
    (first | (go_at_call_of 129 s; refine (numberOf_of k b s _ h0 h1).mono ?_; rintro e w4 ⟨rfl, hb4⟩; obtain ⟨c4, f4⟩ := bcell hb4; have s4 := hb4.size; (try simp at s4); obtain ⟨x4, m0, m1, m2, m3⟩ := step3 hb4 (h := w.heap.size) (by first | omega | (simp; omega)); have d4 : ¬ w4.heap.size = w.heap.size := (by omega); have d4' : ¬ w4.heap.size = w.heap.size + 1 := (by omega); have d4'' : ¬ w4.heap.size = w.heap.size + 1 + 1 := (by omega); (try have u4 : w3.heap.size < w4.heap.size := (by omega)); have y4 : w1.heap.size ≤ w4.heap.size := (by omega); have B4 : Below w1.heap.size w1 w4 := (by first | exact (hb2.drew).trans (hb4.mono (by first | omega | (simp; omega))) | exact ((hb2.drew).alloc (by first | omega | (simp; omega)) _).trans (hb4.mono (by first | omega | (simp; omega))) | exact ((hb2.alloc (by first | omega | (simp; omega)) _).drew).trans (hb4.mono (by first | omega | (simp; omega))))) | (go_at_call_of 129 t; refine (numberOf_of k c t _ g0 g1).mono ?_; rintro e w5 ⟨rfl, hb5⟩; obtain ⟨c5, f5⟩ := bcell hb5; have s5 := hb5.size; (try simp at s5); obtain ⟨x5, l0, l1, l2, l3⟩ := step3 hb5 (h := w.heap.size) (by first | omega | (simp; omega)); have d5 : ¬ w5.heap.size = w.heap.size := (by omega); have d5' : ¬ w5.heap.size = w.heap.size + 1 := (by omega); have d5'' : ¬ w5.heap.size = w.heap.size + 1 + 1 := (by omega); (try have t5 : w3.heap.size < w5.heap.size := (by omega)); (try have u5 : w4.heap.size < w5.heap.size := (by omega)); have y5 : w1.heap.size ≤ w5.heap.size := (by omega); have B5 : Below w1.heap.size w1 w5 := (by first | exact (B4).trans (hb5.mono (by first | omega | (simp; omega))) | exact ((B4).alloc (by first | omega | (simp; omega)) _).trans (hb5.mono (by first | omega | (simp; omega))) | exact ((hb2.alloc (by first | omega | (simp; omega)) _).drew).trans (hb5.mono (by first | omega | (simp; omega))))) | (go_at_call 128; refine (R.out _).mono ?_; rintro e w6 ⟨rfl, hb6⟩; obtain ⟨c6, f6⟩ := bcell hb6; have s6 := hb6.size; (try simp at s6); obtain ⟨x6, p0, p1, p2, p3⟩ := step3 hb6 (h := w.heap.size) (by first | omega | (simp; omega)); have y6 : w1.heap.size ≤ w6.heap.size := (by omega); have B6 : Below w1.heap.size w1 w6 := (by first | exact (B5).trans (hb6.mono (by first | omega | (simp; omega))) | exact ((B5).alloc (by first | omega | (simp; omega)) _).trans (hb6.mono (by first | omega | (simp; omega))) | exact ((hb2.alloc (by first | omega | (simp; omega)) _).drew).trans (hb6.mono (by first | omega | (simp; omega))))))
  all_goals
    go_wp2
    have v0 := (B6.cell (p := ⟨w.heap.size + 1 + 1, 0, none⟩) z).trans a6
    have v1 := (B6.cell (p := ⟨w.heap.size + 1 + 1, 1, none⟩) z).trans a7
    have v2 := (B6.cell (p := ⟨w.heap.size + 1 + 1, 2, none⟩) z).trans a8
    obtain ⟨g0, g1, g2⟩ := three_set4 v0 v1 v2 (.int .u8 0) (.int .u64 0) (.string ⟨#[]⟩)
    have B7 : Below w.heap.size w w6 := HB.trans (B6.mono (by omega))
    refine bodyPost_ret (v := .tuple #[V 0 0 E0, .int .i64 f]) (by simp [results, Tryz.results86, go_sem, v0, v1, v2, g0, g1, g2, d4'', d5'', e3, World.cell?_setCell_far, World.cell?_alloc_some]) rfl ⟨rfl, ?_⟩
    go_grown
end
end Go.Proofs.YtpaibmganlaaeaaGreatDoor
namespace Go.Proofs.YtpaibmganlaaeaaGreatDoor
set_option linter.unusedVariables false
open Go.RowKit
section
variable (op k b k' c : Int) (s t : ByteArray) (w : World)
set_option maxHeartbeats 4000000 in
theorem Reckon_od (h0 : 0 ≤ b) (h1 : b < 18446744073709551616) (hk : 0 ≤ k ∧ k < 256) (hs : s.size ≤ maxLen) (g0 : 0 ≤ c) (g1 : c < 18446744073709551616) (gk : 0 ≤ k' ∧ k' < 256) (gs : t.size ≤ maxLen) (m : may3 k b s = true) (n : may3 k' c t = true) (d : (k == k') = false) (O : Hid (∀ w, Calls Tryz.prog 127 #[.int .i64 op, .int .u8 k, .int .u8 k'] w fun e w' => e = .returned (.int .u8 0) ∧ w' = w)) :
    Calls Tryz.prog 86 #[.int .i64 op, V k b s, V k' c t] w fun e w' => e = .returned (.tuple #[V 0 0 E0, .int .i64 8]) ∧ Below w.heap.size w w' := by
  have M : Hid _ := m
  have N : Hid _ := n
  clear m n
  go_enter Tryz.func86, Tryz.ntmps86
  go_wp2_with fail
  refine (May_is _ _ _ _ true h0 h1 hk hs M.out).mono ?_
  rintro e w1 ⟨rfl, hb⟩
  obtain ⟨z, a0, a1, a2, a3, a4, a5, a6, a7, a8, a9, HB⟩ := step_ab0 hb
  clear hb
  go_wp2_with fail
  refine (May_is _ _ _ _ true g0 g1 gk gs N.out).mono ?_
  rintro e w2 ⟨rfl, hb2⟩
  obtain ⟨y, n0, n1, n2, n3⟩ := step3 hb2 z
  go_wp2_with (first | (go_at_call 127; refine (O.out _).mono ?_; rintro e w3 ⟨rfl, rfl⟩))
  refine bodyPost_ret (v := .tuple #[V 0 0 E0, .int .i64 8]) (by simp [results, Tryz.results86, go_sem, n2, a6, a7, a8]) rfl ⟨rfl, ?_⟩
  have B2 : Below w.heap.size w _ := HB.trans (hb2.mono (by omega))
  go_grown
set_option maxHeartbeats 4000000 in
theorem Reckon_oa1 (h0 : 0 ≤ b) (h1 : b < 18446744073709551616) (hk : 0 ≤ k ∧ k < 256) (hs : s.size ≤ maxLen) (g0 : 0 ≤ c) (g1 : c < 18446744073709551616) (gs : t.size ≤ maxLen) (m : may3 k b s = true) (n : may3 k c t = true) (o5 : op < 6) {hv : Bool} (k18 : (k == 18) = false) (HB0 : Hid (∀ w, Calls Tryz.prog 125 #[.int .u8 k] w fun e w' => e = .returned (.bool hv) ∧ w' = w)) (O : Hid (∀ w, Calls Tryz.prog 127 #[.int .i64 op, .int .u8 k, .int .u8 k] w fun e w' => e = .returned (.int .u8 0) ∧ w' = w)) :
    Calls Tryz.prog 86 #[.int .i64 op, V k b s, V k c t] w fun e w' => e = .returned (.tuple #[V 0 0 E0, .int .i64 8]) ∧ Below w.heap.size w w' := by
  have M : Hid _ := m
  have N : Hid _ := n
  clear m n
  cases hv
  all_goals
    go_enter Tryz.func86, Tryz.ntmps86
    go_wp2_with fail
    refine (May_is _ _ _ _ true h0 h1 hk hs M.out).mono ?_
    rintro e w1 ⟨rfl, hb⟩
    obtain ⟨z, a0, a1, a2, a3, a4, a5, a6, a7, a8, a9, HB⟩ := step_ab0 hb
    clear hb
    go_wp2_with fail
    refine (May_is _ _ _ _ true g0 g1 hk gs N.out).mono ?_
    rintro e w2 ⟨rfl, hb2⟩
    obtain ⟨y, n0, n1, n2, n3⟩ := step3 hb2 z
    go_wp2_with (first | (go_at_call 127; refine (O.out _).mono ?_; rintro e w3 ⟨rfl, rfl⟩) | (go_at_call 125; refine (HB0.out _).mono ?_; rintro e w9 ⟨rfl, rfl⟩))
    refine bodyPost_ret (v := .tuple #[V 0 0 E0, .int .i64 8]) (by simp [results, Tryz.results86, go_sem, n2, a6, a7, a8]) rfl ⟨rfl, ?_⟩
    have B2 : Below w.heap.size w _ := HB.trans (hb2.mono (by omega))
    go_grown
set_option maxHeartbeats 4000000 in
theorem Reckon_oa2 (h0 : 0 ≤ b) (h1 : b < 18446744073709551616) (hk : 0 ≤ k ∧ k < 256) (hs : s.size ≤ maxLen) (g0 : 0 ≤ c) (g1 : c < 18446744073709551616) (gs : t.size ≤ maxLen) (m : may3 k b s = true) (n : may3 k c t = true) (o5 : 14 < op) {hv : Bool} (k18 : (k == 18) = false) (HB0 : Hid (∀ w, Calls Tryz.prog 125 #[.int .u8 k] w fun e w' => e = .returned (.bool hv) ∧ w' = w)) (O : Hid (∀ w, Calls Tryz.prog 127 #[.int .i64 op, .int .u8 k, .int .u8 k] w fun e w' => e = .returned (.int .u8 0) ∧ w' = w)) :
    Calls Tryz.prog 86 #[.int .i64 op, V k b s, V k c t] w fun e w' => e = .returned (.tuple #[V 0 0 E0, .int .i64 8]) ∧ Below w.heap.size w w' := by
  have M : Hid _ := m
  have N : Hid _ := n
  clear m n
  cases hv
  all_goals
    go_enter Tryz.func86, Tryz.ntmps86
    go_wp2_with fail
    refine (May_is _ _ _ _ true h0 h1 hk hs M.out).mono ?_
    rintro e w1 ⟨rfl, hb⟩
    obtain ⟨z, a0, a1, a2, a3, a4, a5, a6, a7, a8, a9, HB⟩ := step_ab0 hb
    clear hb
    go_wp2_with fail
    refine (May_is _ _ _ _ true g0 g1 hk gs N.out).mono ?_
    rintro e w2 ⟨rfl, hb2⟩
    obtain ⟨y, n0, n1, n2, n3⟩ := step3 hb2 z
    go_wp2_with (first | (go_at_call 127; refine (O.out _).mono ?_; rintro e w3 ⟨rfl, rfl⟩) | (go_at_call 125; refine (HB0.out _).mono ?_; rintro e w9 ⟨rfl, rfl⟩))
    refine bodyPost_ret (v := .tuple #[V 0 0 E0, .int .i64 8]) (by simp [results, Tryz.results86, go_sem, n2, a6, a7, a8]) rfl ⟨rfl, ?_⟩
    have B2 : Below w.heap.size w _ := HB.trans (hb2.mono (by omega))
    go_grown
set_option maxHeartbeats 4000000 in
theorem Reckon_oa3 (h0 : 0 ≤ b) (h1 : b < 18446744073709551616) (hk : 0 ≤ k ∧ k < 256) (hs : s.size ≤ maxLen) (g0 : 0 ≤ c) (g1 : c < 18446744073709551616) (gs : t.size ≤ maxLen) (m : may3 k b s = true) (n : may3 k c t = true) (o5 : op < 9) (k18 : (k == 18) = false) (HB0 : Hid (∀ w, Calls Tryz.prog 125 #[.int .u8 k] w fun e w' => e = .returned (.bool false) ∧ w' = w)) (O : Hid (∀ w, Calls Tryz.prog 127 #[.int .i64 op, .int .u8 k, .int .u8 k] w fun e w' => e = .returned (.int .u8 0) ∧ w' = w)) :
    Calls Tryz.prog 86 #[.int .i64 op, V k b s, V k c t] w fun e w' => e = .returned (.tuple #[V 0 0 E0, .int .i64 8]) ∧ Below w.heap.size w w' := by
  have M : Hid _ := m
  have N : Hid _ := n
  clear m n
  go_enter Tryz.func86, Tryz.ntmps86
  go_wp2_with fail
  refine (May_is _ _ _ _ true h0 h1 hk hs M.out).mono ?_
  rintro e w1 ⟨rfl, hb⟩
  obtain ⟨z, a0, a1, a2, a3, a4, a5, a6, a7, a8, a9, HB⟩ := step_ab0 hb
  clear hb
  go_wp2_with fail
  refine (May_is _ _ _ _ true g0 g1 hk gs N.out).mono ?_
  rintro e w2 ⟨rfl, hb2⟩
  obtain ⟨y, n0, n1, n2, n3⟩ := step3 hb2 z
  go_wp2_with (first | (go_at_call 127; refine (O.out _).mono ?_; rintro e w3 ⟨rfl, rfl⟩) | (go_at_call 125; refine (HB0.out _).mono ?_; rintro e w9 ⟨rfl, rfl⟩))
  refine bodyPost_ret (v := .tuple #[V 0 0 E0, .int .i64 8]) (by simp [results, Tryz.results86, go_sem, n2, a6, a7, a8]) rfl ⟨rfl, ?_⟩
  have B2 : Below w.heap.size w _ := HB.trans (hb2.mono (by omega))
  go_grown
end
end Go.Proofs.YtpaibmganlaaeaaGreatDoor
namespace Go.Proofs.YtpaibmganlaaeaaGreatDoor
set_option linter.unusedVariables false
open Go.RowKit
/-- Of which kinds the bits are reckoned one by one. -/
def hbK (k : Int) : Bool := decide (k = 1 ∨ 10 ≤ k ∧ k ≤ 13)
set_option maxHeartbeats 400000 in
theorem hasBits_of (k : Int) (w : World) : Calls Tryz.prog 125 #[.int .u8 k] w fun e w' => e = .returned (.bool (hbK k)) ∧ w' = w := by
  by_cases c : k = 1
  · subst c
    go_enter Tryz.func125, Tryz.ntmps125
    go_wp2
    go_ret
    exact ⟨rfl, rfl⟩
  have c1 : (k == 1) = false := by simpa using c
  by_cases d : 10 ≤ k
  · by_cases e : k ≤ 13
    · have h : hbK k = true := by simp [hbK, d, e]
      rw [h]
      clear h
      go_enter Tryz.func125, Tryz.ntmps125
      go_wp2
      go_ret
      exact ⟨rfl, rfl⟩
    · have h : hbK k = false := by simp [hbK, d, e, c]
      rw [h]
      clear h
      go_enter Tryz.func125, Tryz.ntmps125
      go_wp2
      go_ret
      exact ⟨rfl, rfl⟩
  · have h : hbK k = false := by simp [hbK, d, c]
    rw [h]
    clear h
    go_enter Tryz.func125, Tryz.ntmps125
    go_wp2
    go_ret
    exact ⟨rfl, rfl⟩
/-- What numbers come to, as a value of a kind. -/
def nR (kk op x y : Int) : Value :=
  if (op = 4 ∨ op = 5) ∧ y = 0 then .tuple #[V 0 0 E0, .int .i64 2] else if fitOk kk (opI op x y) then .tuple #[V kk (opI op x y % 18446744073709551616) E0, .int .i64 0] else .tuple #[V 0 0 E0, .int .i64 1]
/-- What an operation on two values comes to. -/
def reckR (op k b k' c : Int) (s t : ByteArray) : Value :=
  if may3 k b s = false ∨ may3 k' c t = false then .tuple #[V 0 0 E0, .int .i64 8]
  else if k = k' ∧ 9 ≤ op ∧ op ≤ 14 then .tuple #[V 1 (tb (hB op k b c s t)) E0, .int .i64 0]
  else if k = k' ∧ k = 18 ∧ 1 ≤ op ∧ op ≤ 4 then .tuple #[V 18 (flB op b.toNat c.toNat) E0, .int .i64 0]
  else if k = k' ∧ hbK k = true ∧ 6 ≤ op ∧ op ≤ 8 then .tuple #[V k (bitB op b c) E0, .int .i64 0]
  else if outc op k k' = 0 then .tuple #[V 0 0 E0, .int .i64 8] else nR (outc op k k') op (num k b) (num k' c)
theorem outc_ne {op k k' : Int} (h : ¬ outc op k k' = 0) : (1 ≤ op ∧ op ≤ 5) ∧ (2 ≤ k ∧ k ≤ 9 ∨ 14 ≤ k ∧ k ≤ 17) ∧ (2 ≤ outc op k k' ∧ outc op k k' ≤ 9 ∧ k = outc op k k' ∧ k' = k ∨ 14 ≤ outc op k k' ∧ outc op k k' ≤ 17 ∧ (14 ≤ k ∧ k ≤ 17) ∧ (14 ≤ k' ∧ k' ≤ 17 ∨ k' = 5)) := by
  revert h
  unfold outc
  (repeat' split) <;> intro h <;> omega
theorem outc_18 (op : Int) : outc op 18 18 = 0 := by
  unfold outc
  (repeat' split) <;> omega
section
variable (op k b k' c : Int) (s t : ByteArray) (w : World)
theorem fit_call (kk n : Int) (w : World) (hk : 0 ≤ kk ∧ kk < 256) (g : -18446744073709551616 < n ∧ n < 18446744073709551616) :
    Calls Tryz.prog 130 #[.int .u8 kk, NB n, .int .i64 1] w fun e w' => e = .returned (if fitOk kk n then .tuple #[V kk (n % 18446744073709551616) E0, .int .i64 0] else .tuple #[V 0 0 E0, .int .i64 1]) ∧ Below w.heap.size w w' := by
  refine (fitted_of kk n 1 w hk g).mono fun e w' ⟨he, hb⟩ => ⟨?_, hb⟩
  rw [he]
  cases f : fitOk kk n <;> simp [RV]
/-- Where numbers are reckoned: out of what reckonNumbers and fitted answer. -/
theorem num_join {P : Value → Prop} (kk op x y : Int) (hk : 0 ≤ kk ∧ kk < 256) (ho : 1 ≤ op ∧ op ≤ 5) (hx : -18446744073709551616 < x ∧ x < 18446744073709551616) (hy : -18446744073709551616 < y ∧ y < 18446744073709551616)
    (hn : ∀ f : Int, (f != 0) = true → Hid (∀ w, Calls Tryz.prog 128 #[.int .i64 op, NB x, NB y] w fun e w' => e = .returned (.tuple #[N0, .int .i64 f]) ∧ Below w.heap.size w w') → P (.tuple #[V 0 0 E0, .int .i64 f]))
    (hy' : ∀ n K B f : Int, Hid (∀ w, Calls Tryz.prog 128 #[.int .i64 op, NB x, NB y] w fun e w' => e = .returned (.tuple #[NB n, .int .i64 0]) ∧ Below w.heap.size w w') → Hid (∀ w, Calls Tryz.prog 130 #[.int .u8 kk, NB n, .int .i64 1] w fun e w' => e = .returned (.tuple #[V K B E0, .int .i64 f]) ∧ Below w.heap.size w w') → P (.tuple #[V K B E0, .int .i64 f])) :
    P (nR kk op x y) := by
  have R := fun w => reckonNumbers_of op x y w ho hx hy
  unfold nR
  by_cases z : (op = 4 ∨ op = 5) ∧ y = 0
  · rw [if_pos z]
    exact hn 2 (by decide) (fun w => by have := R w; unfold rnR at this; rwa [if_pos z] at this)
  rw [if_neg z]
  cases r : room (opI op x y)
  · rw [fit_out kk _ r, if_neg (by simp)]
    exact hn 1 (by decide) (fun w => by have := R w; unfold rnR at this; rwa [if_neg z, r, if_neg (by simp)] at this)
  · have R2 : ∀ w, Calls Tryz.prog 128 #[.int .i64 op, NB x, NB y] w fun e w' => e = .returned (.tuple #[NB (opI op x y), .int .i64 0]) ∧ Below w.heap.size w w' := fun w => by have := R w; unfold rnR at this; rwa [if_neg z, r, if_pos rfl] at this
    have F := fun w => fit_call kk (opI op x y) w hk (by simpa [room] using r)
    cases f : fitOk kk (opI op x y)
    · rw [if_neg (by simp)]
      exact hy' _ _ _ _ R2 (fun w => by have := F w; rwa [f, if_neg (by simp)] at this)
    · rw [if_pos rfl]
      exact hy' _ _ _ _ R2 (fun w => by have := F w; rwa [f, if_pos rfl] at this)
theorem num_wide (k b : Int) (h0 : 0 ≤ b) (h1 : b < 18446744073709551616) : -18446744073709551616 < num k b ∧ num k b < 18446744073709551616 := by
  have := num_bd k b h0 h1; omega
theorem Reckon_of (h0 : 0 ≤ b) (h1 : b < 18446744073709551616) (hk : 0 ≤ k ∧ k < 256) (hs : s.size ≤ maxLen) (g0 : 0 ≤ c) (g1 : c < 18446744073709551616) (gk : 0 ≤ k' ∧ k' < 256) (gs : t.size ≤ maxLen) :
    Calls Tryz.prog 86 #[.int .i64 op, V k b s, V k' c t] w fun e w' => e = .returned (reckR op k b k' c s t) ∧ Below w.heap.size w w' := by
  unfold reckR
  cases m : may3 k b s
  · rw [if_pos (.inl rfl)]; exact Reckon_x1 op k b k' c s t w h0 h1 hk hs m
  cases n : may3 k' c t
  · rw [if_pos (.inr rfl)]; exact Reckon_x2 op k b k' c s t w h0 h1 hk hs g0 g1 gk gs m n
  rw [if_neg (by simp)]
  by_cases d : k = k'
  · subst d
    by_cases o : 9 ≤ op ∧ op ≤ 14
    · rw [if_pos ⟨rfl, o⟩]; exact Reckon_c op k b c s t w o h0 h1 hk hs g0 g1 gs m n
    rw [if_neg (fun h => o h.2)]
    by_cases e : k = 18
    · subst e
      by_cases p : 1 ≤ op ∧ op ≤ 4
      · rw [if_pos ⟨rfl, rfl, p⟩]
        exact Reckon_f op b 18 c s t w h0 h1 hs g0 g1 gs m n (by omega) (fun w => rf_yes op b.toNat c.toNat w p)
      · rw [if_neg (fun h => p h.2.2), if_neg (by rintro ⟨_, h, _⟩; exact absurd h (by decide)), if_pos (outc_18 op)]
        exact Reckon_f op b 0 c s t w h0 h1 hs g0 g1 gs m n (by omega) (fun w => rf_no op b.toNat c.toNat w (by omega) (by omega) (by omega) (by omega))
    rw [if_neg (fun h => e h.2.1)]
    have e18 : (k == 18) = false := by simpa using e
    by_cases q : hbK k = true ∧ 6 ≤ op ∧ op ≤ 8
    · rw [if_pos ⟨rfl, q⟩]
      have hq : k = 1 ∨ 10 ≤ k ∧ k ≤ 13 := by simpa [hbK] using q.1
      rcases hq with rfl | ⟨q1, q2⟩
      · exact Reckon_b1 op b c s t w h0 h1 hk hs g0 g1 gs m n q.2
      · exact Reckon_b2 op k b c s t w h0 h1 hk hs g0 g1 gs m n q.2 q1 q2
    rw [if_neg (fun h => q h.2)]
    have O := fun w => outcome_of op k k w
    by_cases z : outc op k k = 0
    · rw [if_pos z]
      rw [z] at O
      by_cases o6 : op < 6
      · exact Reckon_oa1 op k b c s t w h0 h1 hk hs g0 g1 gs m n o6 e18 (fun w => hasBits_of k w) O
      by_cases o14 : 14 < op
      · exact Reckon_oa2 op k b c s t w h0 h1 hk hs g0 g1 gs m n o14 e18 (fun w => hasBits_of k w) O
      · have hf : hbK k = false := by
          cases x : hbK k
          · rfl
          · exact absurd ⟨x, by omega, by omega⟩ q
        exact Reckon_oa3 op k b c s t w h0 h1 hk hs g0 g1 gs m n (by omega) e18 (fun w => by have := hasBits_of k w; rwa [hf] at this) O
    · rw [if_neg z]
      obtain ⟨p1, p2, p3⟩ := outc_ne z
      have hf : hbK k = false := by simp [hbK]; omega
      have H0 : Hid (∀ w, Calls Tryz.prog 125 #[.int .u8 k] w fun e w' => e = .returned (.bool false) ∧ w' = w) := fun w => by have := hasBits_of k w; rwa [hf] at this
      refine num_join (P := fun v => Calls Tryz.prog 86 #[.int .i64 op, V k b s, V k c t] w fun e w' => e = .returned v ∧ Below w.heap.size w w') (outc op k k) op (num k b) (num k c) (by omega) p1 (num_wide k b h0 h1) (num_wide k c g0 g1) ?_ ?_
      · intro f hf R
        exact Reckon_an op k b c s t w h0 h1 hk hs g0 g1 gs m n p1.2 e18 H0 (by simpa using z) O hf R
      · intro n' K B f R F
        exact Reckon_ay op k b c s t w h0 h1 hk hs g0 g1 gs m n p1.2 e18 H0 (by simpa using z) O R F
  · rw [if_neg (fun h => d h.1), if_neg (fun h => d h.1), if_neg (fun h => d h.1)]
    have d' : (k == k') = false := by simpa using d
    have O := fun w => outcome_of op k k' w
    by_cases z : outc op k k' = 0
    · rw [if_pos z]
      rw [z] at O
      exact Reckon_od op k b k' c s t w h0 h1 hk hs g0 g1 gk gs m n d' O
    · rw [if_neg z]
      obtain ⟨p1, p2, p3⟩ := outc_ne z
      refine num_join (P := fun v => Calls Tryz.prog 86 #[.int .i64 op, V k b s, V k' c t] w fun e w' => e = .returned v ∧ Below w.heap.size w w') (outc op k k') op (num k b) (num k' c) (by omega) p1 (num_wide k b h0 h1) (num_wide k' c g0 g1) ?_ ?_
      · intro f hf R
        exact Reckon_nn op k b k' c s t w h0 h1 hk hs g0 g1 gk gs m n d' (by simpa using z) O hf R
      · intro n' K B f R F
        exact Reckon_ny op k b k' c s t w h0 h1 hk hs g0 g1 gk gs m n d' (by simpa using z) O R F
end
end Go.Proofs.YtpaibmganlaaeaaGreatDoor
namespace Go.Proofs.YtpaibmganlaaeaaGreatDoor
set_option linter.unusedVariables false
open Go.RowKit
/-- The kind that the table has for an operation on two kinds; 0: it has no line. -/
def resK (op k k' : Int) : Int :=
  if (9 ≤ op ∧ op ≤ 14) ∧ k = k' ∧ 1 ≤ k ∧ k ≤ 19 then 1
  else if (1 ≤ op ∧ op ≤ 5) ∧ k = k' ∧ 2 ≤ k ∧ k ≤ 9 then k
  else if (1 ≤ op ∧ op ≤ 4) ∧ k = k' ∧ k = 18 then k
  else if (6 ≤ op ∧ op ≤ 8) ∧ k = k' ∧ (k = 1 ∨ 10 ≤ k ∧ k ≤ 13) then k
  else if op = 1 ∧ k = k' ∧ k = 14 then k
  else if op = 2 ∧ k = k' ∧ 14 ≤ k ∧ k ≤ 17 then 14
  else if (op = 1 ∨ op = 2) ∧ (k = 17 ∨ k = 16) ∧ k' = 14 then k
  else if (op = 3 ∨ op = 4) ∧ k = 14 ∧ k' = 5 then k else 0
theorem resK_d (op k k' : Int) (h : ¬ k = k') : resK op k k' = if (op = 1 ∨ op = 2) ∧ (k = 17 ∨ k = 16) ∧ k' = 14 then k else if (op = 3 ∨ op = 4) ∧ k = 14 ∧ k' = 5 then k else 0 := by
  unfold resK; simp [h]
theorem ops9 (op : Int) : op < 1 ∨ op = 1 ∨ op = 2 ∨ op = 3 ∨ op = 4 ∨ op = 5 ∨ (6 ≤ op ∧ op ≤ 8) ∨ (9 ≤ op ∧ op ≤ 14) ∨ 14 < op := by omega
set_option maxRecDepth 100000 in
set_option maxHeartbeats 4000000 in
theorem Result_d (op k k' : Int) (w : World) (d : (k == k') = false) :
    Calls Tryz.prog 30 #[.int .i64 op, .int .u8 k, .int .u8 k'] w fun e w' => e = .returned (.int .u8 (resK op k k')) ∧ w' = w := by
  rw [resK_d op k k' (by simpa using d)]
  rcases ops9 op with h | rfl | rfl | rfl | rfl | rfl | ⟨h, h'⟩ | ⟨h, h'⟩ | h
  all_goals
    go_enter Tryz.func30, Tryz.ntmps30
    go_wp2
    all_goals
      go_ret
      refine ⟨ret_int ?_, rfl⟩
    all_goals
      go_light
      try simp only [beq_eq_false_iff_ne, ne_eq, beq_iff_eq] at *
    all_goals
      (repeat' split) <;> first | rfl | omega
end Go.Proofs.YtpaibmganlaaeaaGreatDoor
