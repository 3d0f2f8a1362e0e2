/- What value.Reckon answers, for every operation and two values; no statement of the seat is proved here. -/
import Derived.Test.YtkanhbokdjppoaaGreatDoorCmpA
import Derived.Test.YtkanhbokdjppoaaGreatDoorRecO
import Derived.Test.YtkanhbokdjppoaaGreatDoorRecN
import Derived.Test.YtkanhbokdjppoaaGreatDoorRecF
import Derived.Deep.RegionHeld3
namespace Go.Proofs.YtkanhbokdjppoaaGreatDoor
set_option linter.unusedVariables false
open Go.RowKit
theorem step_drew {w1 : World} {h : Nat} (z : h < w1.heap.size) : h < w1.drew.heap.size := z
section
variable (op k b k' c : Int) (s t : ByteArray) (w : World)
set_option maxHeartbeats 1000000 in
theorem Reckon_x1 (h0 : 0 ≤ b) (h1 : b < 18446744073709551616) (hk : 0 ≤ k ∧ k < 256) (hs : s.size ≤ maxLen) (m : may3 k b s = false) :
    Calls Tryz.prog 100 #[.int .i64 op, V k b s, V k' c t] w fun e w' => e = .returned (.tuple #[V 0 0 E0, .int .i64 8]) ∧ Below w.heap.size w w' := by
  go_enter Tryz.func100, Tryz.ntmps100
  go_wp2_with (first | (go_at_call 52; refine (May_is _ _ _ _ false h0 h1 hk hs m).mono ?_; rintro e w1 ⟨rfl, hb⟩; obtain ⟨z, a0, a1, a2, a3, a4, a5, a6, a7, a8, a9, HB⟩ := step_ab0 hb; clear hb))
  exact bodyPost_ret (v := .tuple #[V 0 0 E0, .int .i64 8]) (by simp [results, Tryz.results100, go_sem, a6, a7, a8]) rfl ⟨rfl, ((HB.setCell (by simp; omega) _).setCell (by simp; omega) _).setCell (by simp; omega) _⟩
set_option maxHeartbeats 1000000 in
theorem Reckon_x2 (h0 : 0 ≤ b) (h1 : b < 18446744073709551616) (hk : 0 ≤ k ∧ k < 256) (hs : s.size ≤ maxLen) (g0 : 0 ≤ c) (g1 : c < 18446744073709551616) (gk : 0 ≤ k' ∧ k' < 256) (gs : t.size ≤ maxLen) (m : may3 k b s = true) (n : may3 k' c t = false) :
    Calls Tryz.prog 100 #[.int .i64 op, V k b s, V k' c t] w fun e w' => e = .returned (.tuple #[V 0 0 E0, .int .i64 8]) ∧ Below w.heap.size w w' := by
  have M : Hid _ := m
  have N : Hid _ := n
  clear m n
  go_enter Tryz.func100, Tryz.ntmps100
  go_wp2_with fail
  refine (May_is _ _ _ _ true h0 h1 hk hs M.out).mono ?_
  rintro e w1 ⟨rfl, hb⟩
  obtain ⟨z, a0, a1, a2, a3, a4, a5, a6, a7, a8, a9, HB⟩ := step_ab0 hb
  clear hb
  go_wp2_with fail
  refine (May_is _ _ _ _ false g0 g1 gk gs N.out).mono ?_
  rintro e w2 ⟨rfl, hb2⟩
  obtain ⟨y, n0, n1, n2, n3⟩ := step3 hb2 z
  go_wp2
  exact bodyPost_ret (v := .tuple #[V 0 0 E0, .int .i64 8]) (by simp [results, Tryz.results100, go_sem, n2, a6, a7, a8]) rfl ⟨rfl, (((HB.trans (hb2.mono (by omega))).setCell (by simp; omega) _).setCell (by simp; omega) _).setCell (by simp; omega) _⟩
set_option maxHeartbeats 2000000 in
theorem Reckon_c (ho : 9 ≤ op ∧ op ≤ 14) (h0 : 0 ≤ b) (h1 : b < 18446744073709551616) (hk : 0 ≤ k ∧ k < 256) (hs : s.size ≤ maxLen) (g0 : 0 ≤ c) (g1 : c < 18446744073709551616) (gs : t.size ≤ maxLen) (m : may3 k b s = true) (n : may3 k c t = true) :
    Calls Tryz.prog 100 #[.int .i64 op, V k b s, V k c t] w fun e w' => e = .returned (.tuple #[V 1 (tb (hB op k b c s t)) E0, .int .i64 0]) ∧ Below w.heap.size w w' := by
  have M : Hid _ := m
  have N : Hid _ := n
  have HH : Hid _ := holds_of b c s t
  clear m n
  have ho' : Hid (9 ≤ op ∧ op ≤ 14) := ho
  have o1 : 9 ≤ op := by omega
  have o2 : op ≤ 14 := by omega
  clear ho
  go_enter Tryz.func100, Tryz.ntmps100
  go_wp2_with fail
  refine (May_is _ _ _ _ true h0 h1 hk hs M.out).mono ?_
  rintro e w1 ⟨rfl, hb⟩
  obtain ⟨z, a0, a1, a2, a3, a4, a5, a6, a7, a8, a9, HB⟩ := step_ab0 hb
  clear hb
  go_wp2_with fail
  refine (May_is _ _ _ _ true g0 g1 hk gs N.out).mono ?_
  rintro e w2 ⟨rfl, hb2⟩
  obtain ⟨y, n0, n1, n2, n3⟩ := step3 hb2 z
  go_wp2_with fail
  refine (HH.out _ op k ho'.out h0 h1 g0 g1).mono ?_
  rintro e w3 ⟨rfl, hb3⟩
  obtain ⟨x, m0, m1, m2, m3⟩ := step3 hb3 y
  go_wp2_with fail
  refine (Bool_of _ _).mono ?_
  rintro e w4 ⟨rfl, hb4⟩
  obtain ⟨v, l0, l1, l2, l3⟩ := step3 hb4 x
  go_wp2
  exact bodyPost_ret (v := .tuple #[V 1 (tb (hB op k b c s t)) E0, .int .i64 0]) (by simp [results, Tryz.results100, go_sem, l2, m2, n2, a6, a7, a8]) rfl ⟨rfl, (((((HB.trans (hb2.mono (by omega))).trans (hb3.mono (by omega))).trans (hb4.mono (by omega))).setCell (by simp; omega) _).setCell (by simp; omega) _).setCell (by simp; omega) _⟩
set_option maxHeartbeats 2000000 in
theorem Reckon_f (h0 : 0 ≤ b) (h1 : b < 18446744073709551616) (hs : s.size ≤ maxLen) (g0 : 0 ≤ c) (g1 : c < 18446744073709551616) (gs : t.size ≤ maxLen) (m : may3 18 b s = true) (n : may3 18 c t = true) (o : op < 9 ∨ 14 < op) {f f' : Int} (R : Hid (∀ w, Calls Tryz.prog 142 #[.int .i64 op, .float .f64 b.toNat, .float .f64 c.toNat] w fun e w' => e = .returned (.tuple #[V k' f' E0, .int .i64 f]) ∧ Below w.heap.size w w')) :
    Calls Tryz.prog 100 #[.int .i64 op, V 18 b s, V 18 c t] w fun e w' => e = .returned (.tuple #[V k' f' E0, .int .i64 f]) ∧ Below w.heap.size w w' := by
  have M : Hid _ := m
  have N : Hid _ := n
  clear m n
  have hx := call_frombits
  have hk : 0 ≤ (18 : Int) ∧ (18 : Int) < 256 := by omega
  rcases o with o | o
  all_goals
    go_enter Tryz.func100, Tryz.ntmps100
    go_wp2_with fail
    refine (May_is _ _ _ _ true h0 h1 hk hs M.out).mono ?_
    rintro e w1 ⟨rfl, hb⟩
    obtain ⟨z, a0, a1, a2, a3, a4, a5, a6, a7, a8, a9, HB⟩ := step_ab0 hb
    clear hb
    go_wp2_with fail
    refine (May_is _ _ _ _ true g0 g1 hk gs N.out).mono ?_
    rintro e w2 ⟨rfl, hb2⟩
    obtain ⟨y, n0, n1, n2, n3⟩ := step3 hb2 z
    have B2 := HB.trans (hb2.mono (by omega))
    have q1 : ¬ w.heap.size + 1 + 1 = w.heap.size := by omega
    go_wp2_with fail
    go_region_held3 (fun w' => w'.cell? ⟨w.heap.size, 1, none⟩ = some (.int .u64 b) ∧ w'.cell? ⟨w.heap.size + 1, 1, none⟩ = some (.int .u64 c)) (go_keep)
      (first | (go_at_call 142; refine (R.out _).mono ?_; rintro e w3 ⟨rfl, hb3⟩; obtain ⟨x, m0, m1, m2, m3⟩ := step3 hb3 (step_drew y)))
    go_wp2
    refine bodyPost_ret (v := .tuple #[V k' f' E0, .int .i64 f]) (by simp [results, Tryz.results100, go_sem, m2, n2, a6, a7, a8]) rfl ⟨rfl, ?_⟩
    have B3 := B2.drew.trans (hb3.mono (by have : w2.drew.heap.size = w2.heap.size := rfl; omega))
    go_grown
end
end Go.Proofs.YtkanhbokdjppoaaGreatDoor
