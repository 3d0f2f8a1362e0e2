/- What value.Reckon answers where numbers are reckoned; no statement of the seat is proved here. -/
import Derived.Test.YtfihbpglnnheiaaDoorRecW
namespace Go.Proofs.YtfihbpglnnheiaaDoor
set_option linter.unusedVariables false
open Go.RowKit
section
variable (op k b k' c : Int) (s t : ByteArray) (w : World)
set_option maxHeartbeats 4000000 in
theorem Reckon_ny (h0 : 0 ≤ b) (h1 : b < 18446744073709551616) (hk : 0 ≤ k ∧ k < 256) (hs : s.size ≤ maxLen) (g0 : 0 ≤ c) (g1 : c < 18446744073709551616) (gk : 0 ≤ k' ∧ k' < 256) (gs : t.size ≤ maxLen) (m : may3 k b s = true) (n : may3 k' c t = true) (d : (k == k') = false) {kk : Int} (kz : (kk == 0) = false) (O : Hid (∀ w, Calls Tryd.prog 20 #[.int .i64 op, .int .u8 k, .int .u8 k'] w fun e w' => e = .returned (.int .u8 kk) ∧ w' = w)) {n' K B' f : Int} (R : Hid (∀ w, Calls Tryd.prog 21 #[.int .i64 op, NB (num k b), NB (num k' c)] w fun e w' => e = .returned (.tuple #[NB n', .int .i64 0]) ∧ Below w.heap.size w w')) (F : Hid (∀ w, Calls Tryd.prog 10 #[.int .u8 kk, NB n', .int .i64 1] w fun e w' => e = .returned (.tuple #[V K B' E0, .int .i64 f]) ∧ Below w.heap.size w w')) :
    Calls Tryd.prog 6 #[.int .i64 op, V k b s, V k' c t] w fun e w' => e = .returned (.tuple #[V K B' E0, .int .i64 f]) ∧ Below w.heap.size w w' := by
  have M : Hid _ := m
  have N : Hid _ := n
  clear m n
  go_enter Tryd.func6, Tryd.ntmps6
  go_wp2_with fail
  refine (May_is _ _ _ _ true h0 h1 hk hs M.out).mono ?_
  rintro e w1 ⟨rfl, hb⟩
  obtain ⟨z, a0, a1, a2, a3, a4, a5, a6, a7, a8, a9, HB⟩ := step_ab0 hb
  clear hb
  go_wp2_with fail
  refine (May_is _ _ _ _ true g0 g1 gk gs N.out).mono ?_
  rintro e w2 ⟨rfl, hb2⟩
  obtain ⟨y, n0, n1, n2, n3⟩ := step3 hb2 z
  have q1 : ¬ w.heap.size + 1 + 1 = w.heap.size := by omega
  have y3 := hb2.size
  go_wp2_with (first | (go_at_call 20; refine (O.out _).mono ?_; rintro e w3 ⟨rfl, rfl⟩))
  have e1 := World.new_ne w3 ⟨w.heap.size, 0, none⟩ ((n0 0).trans a0)
  have e2 := World.new_ne w3 ⟨w.heap.size + 1, 0, none⟩ ((n1 0).trans a3)
  have e3 := World.new_ne w3 ⟨w.heap.size + 1 + 1, 0, none⟩ ((n2 0).trans a6)
  go_region_held3 (fun w' => w'.cell? ⟨w.heap.size, 0, none⟩ = some (.int .u8 k) ∧ w'.cell? ⟨w.heap.size, 1, none⟩ = some (.int .u64 b) ∧ w'.cell? ⟨w.heap.size, 2, none⟩ = some (.string s) ∧ w'.cell? ⟨w.heap.size + 1, 0, none⟩ = some (.int .u8 k') ∧ w'.cell? ⟨w.heap.size + 1, 1, none⟩ = some (.int .u64 c) ∧ w'.cell? ⟨w.heap.size + 1, 2, none⟩ = some (.string t)) (go_keep)
    (first | (go_at_call_of 22 s; refine (numberOf_of k b s _ h0 h1).mono ?_; rintro e w4 ⟨rfl, hb4⟩; obtain ⟨c4, f4⟩ := bcell hb4; have s4 := hb4.size; (try simp at s4); obtain ⟨x4, m0, m1, m2, m3⟩ := step3 hb4 (h := w.heap.size) (by first | omega | (simp; omega)); have d4 : ¬ w4.heap.size = w.heap.size := (by omega); have d4' : ¬ w4.heap.size = w.heap.size + 1 := (by omega); have d4'' : ¬ w4.heap.size = w.heap.size + 1 + 1 := (by omega); (try have u4 : w3.heap.size < w4.heap.size := (by omega)); have y4 : w1.heap.size ≤ w4.heap.size := (by omega); have B4 : Below w1.heap.size w1 w4 := (by first | exact (hb2.drew).trans (hb4.mono (by first | omega | (simp; omega))) | exact ((hb2.drew).alloc (by first | omega | (simp; omega)) _).trans (hb4.mono (by first | omega | (simp; omega))) | exact ((hb2.alloc (by first | omega | (simp; omega)) _).drew).trans (hb4.mono (by first | omega | (simp; omega))))) | (go_at_call_of 22 t; refine (numberOf_of k' c t _ g0 g1).mono ?_; rintro e w5 ⟨rfl, hb5⟩; obtain ⟨c5, f5⟩ := bcell hb5; have s5 := hb5.size; (try simp at s5); obtain ⟨x5, l0, l1, l2, l3⟩ := step3 hb5 (h := w.heap.size) (by first | omega | (simp; omega)); have d5 : ¬ w5.heap.size = w.heap.size := (by omega); have d5' : ¬ w5.heap.size = w.heap.size + 1 := (by omega); have d5'' : ¬ w5.heap.size = w.heap.size + 1 + 1 := (by omega); (try have t5 : w3.heap.size < w5.heap.size := (by omega)); (try have u5 : w4.heap.size < w5.heap.size := (by omega)); have y5 : w1.heap.size ≤ w5.heap.size := (by omega); have B5 : Below w1.heap.size w1 w5 := (by first | exact (B4).trans (hb5.mono (by first | omega | (simp; omega))) | exact ((B4).alloc (by first | omega | (simp; omega)) _).trans (hb5.mono (by first | omega | (simp; omega))) | exact ((hb2.alloc (by first | omega | (simp; omega)) _).drew).trans (hb5.mono (by first | omega | (simp; omega))))) | (go_at_call 21; refine (R.out _).mono ?_; rintro e w6 ⟨rfl, hb6⟩; obtain ⟨c6, f6⟩ := bcell hb6; have s6 := hb6.size; (try simp at s6); obtain ⟨x6, p0, p1, p2, p3⟩ := step3 hb6 (h := w.heap.size) (by first | omega | (simp; omega)); have y6 : w1.heap.size ≤ w6.heap.size := (by omega); have B6 : Below w1.heap.size w1 w6 := (by first | exact (B5).trans (hb6.mono (by first | omega | (simp; omega))) | exact ((B5).alloc (by first | omega | (simp; omega)) _).trans (hb6.mono (by first | omega | (simp; omega))) | exact ((hb2.alloc (by first | omega | (simp; omega)) _).drew).trans (hb6.mono (by first | omega | (simp; omega))))))
  all_goals
    go_wp2_with (first | (go_at_call 10; refine (F.out _).mono ?_; rintro e w7 ⟨rfl, hb7⟩; obtain ⟨x7, r0, r1, r2, r3⟩ := step3 hb7 (h := w.heap.size) (by first | omega | (simp; omega))))
    have C7 : Below w1.heap.size w1 w7 := by first | exact ((B6.setCell (by first | omega | (simp; omega)) _).setCell (by first | omega | (simp; omega)) _).trans (hb7.mono (by first | omega | (simp; omega))) | exact (B6.alloc (by first | omega | (simp; omega)) _).trans (hb7.mono (by first | omega | (simp; omega)))
    have v0 := (C7.cell (p := ⟨w.heap.size + 1 + 1, 0, none⟩) z).trans a6
    have v1 := (C7.cell (p := ⟨w.heap.size + 1 + 1, 1, none⟩) z).trans a7
    have v2 := (C7.cell (p := ⟨w.heap.size + 1 + 1, 2, none⟩) z).trans a8
    have B7 : Below w.heap.size w w7 := HB.trans (C7.mono (by omega))
    refine bodyPost_ret (v := .tuple #[V K B' E0, .int .i64 f]) (by simp [results, Tryd.results6, go_sem, v0, v1, v2]) rfl ⟨rfl, ?_⟩
    go_grown
end
end Go.Proofs.YtfihbpglnnheiaaDoor
