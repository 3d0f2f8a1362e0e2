/- What value.Reckon answers where bits are reckoned one by one; no statement of the seat is proved here. -/
import Derived.Test.YtfihbpglnnheiaaDoorRecW
namespace Go.Proofs.YtfihbpglnnheiaaDoor
set_option linter.unusedVariables false
open Go.RowKit
/-- An operation on bits. -/
def bitB (op b c : Int) : Int := if op = 6 then bits .and .u64 b c else if op = 7 then bits .or .u64 b c else bits .xor .u64 b c
set_option maxHeartbeats 400000 in
theorem reckonBits_of (op b c : Int) (w : World) (o : 6 ≤ op ∧ op ≤ 8) : Calls Tryd.prog 19 #[.int .i64 op, .int .u64 b, .int .u64 c] w fun e w' => e = .returned (.int .u64 (bitB op b c)) ∧ w' = w := by
  have : op = 6 ∨ op = 7 ∨ op = 8 := by omega
  rcases this with rfl | rfl | rfl
  all_goals
    go_enter Tryd.func19, Tryd.ntmps19
    go_wp2
    go_ret
    exact ⟨rfl, rfl⟩
section
variable (op k b c : Int) (s t : ByteArray) (w : World)
set_option maxHeartbeats 2000000 in
theorem Reckon_b1 (h0 : 0 ≤ b) (h1 : b < 18446744073709551616) (hk : 0 ≤ (1 : Int) ∧ (1 : Int) < 256) (hs : s.size ≤ maxLen) (g0 : 0 ≤ c) (g1 : c < 18446744073709551616) (gs : t.size ≤ maxLen) (m : may3 1 b s = true) (n : may3 1 c t = true) (o : 6 ≤ op ∧ op ≤ 8) :
    Calls Tryd.prog 6 #[.int .i64 op, V 1 b s, V 1 c t] w fun e w' => e = .returned (.tuple #[V 1 (bitB op b c) E0, .int .i64 0]) ∧ Below w.heap.size w w' := by
  have M : Hid _ := m
  have N : Hid _ := n
  clear m n
  have R : Hid _ := fun w => reckonBits_of op b c w o
  obtain ⟨o1, o2⟩ := o
  generalize hv : bitB op b c = v at *
  clear hv
  go_enter Tryd.func6, Tryd.ntmps6
  go_wp2_with fail
  refine (May_is _ _ _ _ true h0 h1 hk hs M.out).mono ?_
  rintro e w1 ⟨rfl, hb⟩
  obtain ⟨z, a0, a1, a2, a3, a4, a5, a6, a7, a8, a9, HB⟩ := step_ab0 hb
  clear hb
  go_wp2_with fail
  refine (May_is _ _ _ _ true g0 g1 hk gs N.out).mono ?_
  rintro e w2 ⟨rfl, hb2⟩
  obtain ⟨y, n0, n1, n2, n3⟩ := step3 hb2 z
  have B2 := HB.trans (hb2.mono (by omega))
  have q1 : ¬ w.heap.size + 1 + 1 = w.heap.size := by omega
  go_wp2
  go_region_held3 (fun w' => w'.cell? ⟨w.heap.size, 0, none⟩ = some (.int .u8 1) ∧ w'.cell? ⟨w.heap.size, 1, none⟩ = some (.int .u64 b) ∧ w'.cell? ⟨w.heap.size + 1, 1, none⟩ = some (.int .u64 c)) (go_keep)
    (first | (go_at_call 19; refine (R.out _).mono ?_; rintro e w3 ⟨rfl, rfl⟩))
  go_wp2
  have B3 := B2.drew
  refine bodyPost_ret (v := .tuple #[V 1 v E0, .int .i64 0]) (by simp [results, Tryd.results6, go_sem, n2, a6, a7, a8]) rfl ⟨rfl, ?_⟩
  go_grown
set_option maxHeartbeats 2000000 in
theorem Reckon_b2 (h0 : 0 ≤ b) (h1 : b < 18446744073709551616) (hk : 0 ≤ (k : Int) ∧ (k : Int) < 256) (hs : s.size ≤ maxLen) (g0 : 0 ≤ c) (g1 : c < 18446744073709551616) (gs : t.size ≤ maxLen) (m : may3 k b s = true) (n : may3 k c t = true) (o : 6 ≤ op ∧ op ≤ 8) (hb1 : 10 ≤ k) (hb2 : k ≤ 13) :
    Calls Tryd.prog 6 #[.int .i64 op, V k b s, V k c t] w fun e w' => e = .returned (.tuple #[V k (bitB op b c) E0, .int .i64 0]) ∧ Below w.heap.size w w' := by
  have M : Hid _ := m
  have N : Hid _ := n
  clear m n
  have R : Hid _ := fun w => reckonBits_of op b c w o
  obtain ⟨o1, o2⟩ := o
  generalize hv : bitB op b c = v at *
  clear hv
  have k18 : (k == 18) = false := by simp; omega
  have k1 : (k == 1) = false := by simp; omega
  go_enter Tryd.func6, Tryd.ntmps6
  go_wp2_with fail
  refine (May_is _ _ _ _ true h0 h1 hk hs M.out).mono ?_
  rintro e w1 ⟨rfl, hb⟩
  obtain ⟨z, a0, a1, a2, a3, a4, a5, a6, a7, a8, a9, HB⟩ := step_ab0 hb
  clear hb
  go_wp2_with fail
  refine (May_is _ _ _ _ true g0 g1 hk gs N.out).mono ?_
  rintro e w2 ⟨rfl, hb2⟩
  obtain ⟨y, n0, n1, n2, n3⟩ := step3 hb2 z
  have B2 := HB.trans (hb2.mono (by omega))
  have q1 : ¬ w.heap.size + 1 + 1 = w.heap.size := by omega
  go_wp2
  go_region_held3 (fun w' => w'.cell? ⟨w.heap.size, 0, none⟩ = some (.int .u8 k) ∧ w'.cell? ⟨w.heap.size, 1, none⟩ = some (.int .u64 b) ∧ w'.cell? ⟨w.heap.size + 1, 1, none⟩ = some (.int .u64 c)) (go_keep)
    (first | (go_at_call 19; refine (R.out _).mono ?_; rintro e w3 ⟨rfl, rfl⟩))
  go_wp2
  have B3 := B2.drew
  refine bodyPost_ret (v := .tuple #[V k v E0, .int .i64 0]) (by simp [results, Tryd.results6, go_sem, n2, a6, a7, a8]) rfl ⟨rfl, ?_⟩
  go_grown
end
end Go.Proofs.YtfihbpglnnheiaaDoor
