/- What value.Reckon answers for the comparisons =, <>, < and >; no statement of the seat is proved here. -/
import Derived.Test.YtdnpeghdfhjmaabCmp
namespace Go.Proofs.Ytdnpeghdfhjmaab
set_option linter.unusedVariables false
open Go.RowKit
/-- Two values' boxes and a result's, behind a first call. -/
theorem step_ab0 {w w1 : World} {k b k' c : Int} {s t : ByteArray} {u v x : TypeId}
    (hb : Below (((w.alloc (.cells #[.int .u8 k, .int .u64 b, .string s] u)).alloc (.cells #[.int .u8 k', .int .u64 c, .string t] v)).alloc (ZC x)).heap.size (((w.alloc (.cells #[.int .u8 k, .int .u64 b, .string s] u)).alloc (.cells #[.int .u8 k', .int .u64 c, .string t] v)).alloc (ZC x)) w1) :
    w.heap.size + 1 + 1 < w1.heap.size ∧ w1.cell? ⟨w.heap.size, 0, none⟩ = some (.int .u8 k) ∧ w1.cell? ⟨w.heap.size, 1, none⟩ = some (.int .u64 b) ∧ w1.cell? ⟨w.heap.size, 2, none⟩ = some (.string s) ∧
    w1.cell? ⟨w.heap.size + 1, 0, none⟩ = some (.int .u8 k') ∧ w1.cell? ⟨w.heap.size + 1, 1, none⟩ = some (.int .u64 c) ∧ w1.cell? ⟨w.heap.size + 1, 2, none⟩ = some (.string t) ∧
    w1.cell? ⟨w.heap.size + 1 + 1, 0, none⟩ = some (.int .u8 0) ∧ w1.cell? ⟨w.heap.size + 1 + 1, 1, none⟩ = some (.int .u64 0) ∧ w1.cell? ⟨w.heap.size + 1 + 1, 2, none⟩ = some (.string ⟨#[]⟩) ∧
    (∀ o, w1.frozen? ⟨w.heap.size + 1 + 1, o, none⟩ = false) ∧ Below w.heap.size w w1 := by
  have hs := hb.size
  simp only [World.size_alloc] at hs
  refine ⟨by omega, ?_, ?_, ?_, ?_, ?_, ?_, ?_, ?_, ?_, ?_, ((((Below.refl _ _).alloc (Nat.le_refl _) _).alloc (by simp) _).alloc (by simp; omega) _).trans (hb.mono (by simp; omega))⟩
  · rw [hb.cell (p := ⟨w.heap.size, 0, none⟩) (by simp; omega)]; simp [ZC, go_sem]
  · rw [hb.cell (p := ⟨w.heap.size, 1, none⟩) (by simp; omega)]; simp [ZC, go_sem]
  · rw [hb.cell (p := ⟨w.heap.size, 2, none⟩) (by simp; omega)]; simp [ZC, go_sem]
  · rw [hb.cell (p := ⟨w.heap.size + 1, 0, none⟩) (by simp)]; simp [ZC, go_sem]
  · rw [hb.cell (p := ⟨w.heap.size + 1, 1, none⟩) (by simp)]; simp [ZC, go_sem]
  · rw [hb.cell (p := ⟨w.heap.size + 1, 2, none⟩) (by simp)]; simp [ZC, go_sem]
  · rw [hb.cell (p := ⟨w.heap.size + 1 + 1, 0, none⟩) (by simp)]; simp [ZC, go_sem]
  · rw [hb.cell (p := ⟨w.heap.size + 1 + 1, 1, none⟩) (by simp)]; simp [ZC, go_sem]
  · rw [hb.cell (p := ⟨w.heap.size + 1 + 1, 2, none⟩) (by simp)]; simp [ZC, go_sem]
  · intro o
    rw [hb.frozen (p := ⟨w.heap.size + 1 + 1, o, none⟩) (by simp)]; simp [ZC, go_sem]
/-- What a call that only makes memory leaves of three old blocks. -/
theorem step3 {W w2 : World} {h : Nat} (hb : Below W.heap.size W w2) (z : h + 1 + 1 < W.heap.size) :
    h + 1 + 1 < w2.heap.size ∧ (∀ o, w2.cell? ⟨h, o, none⟩ = W.cell? ⟨h, o, none⟩) ∧ (∀ o, w2.cell? ⟨h + 1, o, none⟩ = W.cell? ⟨h + 1, o, none⟩) ∧ (∀ o, w2.cell? ⟨h + 1 + 1, o, none⟩ = W.cell? ⟨h + 1 + 1, o, none⟩) ∧ (∀ o, w2.frozen? ⟨h + 1 + 1, o, none⟩ = W.frozen? ⟨h + 1 + 1, o, none⟩) :=
  ⟨Nat.lt_of_lt_of_le z hb.size, fun o => hb.cell (p := ⟨h, o, none⟩) (by show h < _; omega), fun o => hb.cell (p := ⟨h + 1, o, none⟩) (by show h + 1 < _; omega), fun o => hb.cell (p := ⟨h + 1 + 1, o, none⟩) z, fun o => hb.frozen (p := ⟨h + 1 + 1, o, none⟩) z⟩
section
variable (op k b k' c : Int) (s t : ByteArray) (w : World)
set_option maxHeartbeats 1000000 in
theorem Reckon_x1 (h0 : 0 ≤ b) (h1 : b < 18446744073709551616) (hk : 0 ≤ k ∧ k < 256) (hs : s.size ≤ maxLen) (m : may3 k b s = false) :
    Calls Try.prog 9 #[.int .i64 op, V k b s, V k' c t] w fun e w' => e = .returned (.tuple #[V 0 0 E0, .int .i64 8]) ∧ Below w.heap.size w w' := by
  go_enter Try.func9, Try.ntmps9
  go_wp2_with (first | (go_at_call 11; refine (May_is _ _ _ _ false h0 h1 hk hs m).mono ?_; rintro e w1 ⟨rfl, hb⟩; obtain ⟨z, a0, a1, a2, a3, a4, a5, a6, a7, a8, a9, HB⟩ := step_ab0 hb; clear hb))
  exact bodyPost_ret (v := .tuple #[V 0 0 E0, .int .i64 8]) (by simp [results, Try.results9, go_sem, a6, a7, a8]) rfl ⟨rfl, ((HB.setCell (by simp; omega) _).setCell (by simp; omega) _).setCell (by simp; omega) _⟩
set_option maxHeartbeats 1000000 in
theorem Reckon_x2 (h0 : 0 ≤ b) (h1 : b < 18446744073709551616) (hk : 0 ≤ k ∧ k < 256) (hs : s.size ≤ maxLen) (g0 : 0 ≤ c) (g1 : c < 18446744073709551616) (gk : 0 ≤ k' ∧ k' < 256) (gs : t.size ≤ maxLen) (m : may3 k b s = true) (n : may3 k' c t = false) :
    Calls Try.prog 9 #[.int .i64 op, V k b s, V k' c t] w fun e w' => e = .returned (.tuple #[V 0 0 E0, .int .i64 8]) ∧ Below w.heap.size w w' := by
  have M : Hid _ := m
  have N : Hid _ := n
  clear m n
  go_enter Try.func9, Try.ntmps9
  go_wp2_with fail
  refine (May_is _ _ _ _ true h0 h1 hk hs M.out).mono ?_
  rintro e w1 ⟨rfl, hb⟩
  obtain ⟨z, a0, a1, a2, a3, a4, a5, a6, a7, a8, a9, HB⟩ := step_ab0 hb
  clear hb
  go_wp2_with fail
  refine (May_is _ _ _ _ false g0 g1 gk gs N.out).mono ?_
  rintro e w2 ⟨rfl, hb2⟩
  obtain ⟨y, n0, n1, n2, n3⟩ := step3 hb2 z
  go_wp2
  exact bodyPost_ret (v := .tuple #[V 0 0 E0, .int .i64 8]) (by simp [results, Try.results9, go_sem, n2, a6, a7, a8]) rfl ⟨rfl, (((HB.trans (hb2.mono (by omega))).setCell (by simp; omega) _).setCell (by simp; omega) _).setCell (by simp; omega) _⟩
set_option maxHeartbeats 2000000 in
theorem Reckon_k (ho : op = 9 ∨ op = 10 ∨ op = 11 ∨ op = 13) (h0 : 0 ≤ b) (h1 : b < 18446744073709551616) (hk : 0 ≤ k ∧ k < 256) (hs : s.size ≤ maxLen) (g0 : 0 ≤ c) (g1 : c < 18446744073709551616) (gk : 0 ≤ k' ∧ k' < 256) (gs : t.size ≤ maxLen) (m : may3 k b s = true) (n : may3 k' c t = true) (d : (k == k') = false) :
    Calls Try.prog 9 #[.int .i64 op, V k b s, V k' c t] w fun e w' => e = .returned (.tuple #[V 0 0 E0, .int .i64 8]) ∧ Below w.heap.size w w' := by
  have M : Hid _ := m
  have N : Hid _ := n
  clear m n
  have hI : (∀ w, Calls Try.prog 29 #[.int .i64 op, .int .u8 k, .int .u8 k'] w fun e w' => e = .returned (.int .u8 0) ∧ w' = w) := by
    intro w
    rcases ho with rfl | rfl | rfl | rfl
    all_goals
      by_cases i1 : 2 ≤ k
      · by_cases i2 : k ≤ 9
        · go_enter Try.func29, Try.ntmps29
          go_wp2
          all_goals
            go_ret
            exact ⟨rfl, rfl⟩
        · go_enter Try.func29, Try.ntmps29
          go_wp2
          all_goals
            go_ret
            exact ⟨rfl, rfl⟩
      · go_enter Try.func29, Try.ntmps29
        go_wp2
        all_goals
          go_ret
          exact ⟨rfl, rfl⟩
  have HI : Hid _ := hI
  clear hI
  rcases ho with rfl | rfl | rfl | rfl
  all_goals
    go_enter Try.func9, Try.ntmps9
    go_wp2_with fail
    refine (May_is _ _ _ _ true h0 h1 hk hs M.out).mono ?_
    rintro e w1 ⟨rfl, hb⟩
    obtain ⟨z, a0, a1, a2, a3, a4, a5, a6, a7, a8, a9, HB⟩ := step_ab0 hb
    clear hb
    go_wp2_with fail
    refine (May_is _ _ _ _ true g0 g1 gk gs N.out).mono ?_
    rintro e w2 ⟨rfl, hb2⟩
    obtain ⟨y, n0, n1, n2, n3⟩ := step3 hb2 z
    go_wp2_with (first | (go_at_call 29; refine (HI.out _).mono ?_; rintro e w3 ⟨rfl, rfl⟩))
    exact bodyPost_ret (v := .tuple #[V 0 0 E0, .int .i64 8]) (by simp [results, Try.results9, go_sem, n2, a6, a7, a8]) rfl ⟨rfl, (((HB.trans (hb2.mono (by omega))).setCell (by simp; omega) _).setCell (by simp; omega) _).setCell (by simp; omega) _⟩
set_option maxHeartbeats 2000000 in
theorem Reckon_c (ho : op = 9 ∨ op = 10 ∨ op = 11 ∨ op = 13) (h0 : 0 ≤ b) (h1 : b < 18446744073709551616) (hk : 0 ≤ k ∧ k < 256) (hs : s.size ≤ maxLen) (g0 : 0 ≤ c) (g1 : c < 18446744073709551616) (gs : t.size ≤ maxLen) (m : may3 k b s = true) (n : may3 k c t = true) :
    Calls Try.prog 9 #[.int .i64 op, V k b s, V k c t] w fun e w' => e = .returned (.tuple #[V 1 (tb (hB op k b c s t)) E0, .int .i64 0]) ∧ Below w.heap.size w w' := by
  have M : Hid _ := m
  have N : Hid _ := n
  have HH : Hid _ := holds_of b c s t
  clear m n
  have ho' : Hid (op = 9 ∨ op = 10 ∨ op = 11 ∨ op = 13) := ho
  have o1 : 9 ≤ op := by omega
  have o2 : op ≤ 14 := by omega
  clear ho
  go_enter Try.func9, Try.ntmps9
  go_wp2_with fail
  refine (May_is _ _ _ _ true h0 h1 hk hs M.out).mono ?_
  rintro e w1 ⟨rfl, hb⟩
  obtain ⟨z, a0, a1, a2, a3, a4, a5, a6, a7, a8, a9, HB⟩ := step_ab0 hb
  clear hb
  go_wp2_with fail
  refine (May_is _ _ _ _ true g0 g1 hk gs N.out).mono ?_
  rintro e w2 ⟨rfl, hb2⟩
  obtain ⟨y, n0, n1, n2, n3⟩ := step3 hb2 z
  go_wp2_with fail
  refine (HH.out _ op k ho'.out h0 h1 g0 g1).mono ?_
  rintro e w3 ⟨rfl, hb3⟩
  obtain ⟨x, m0, m1, m2, m3⟩ := step3 hb3 y
  go_wp2_with fail
  refine (Bool_of _ _).mono ?_
  rintro e w4 ⟨rfl, hb4⟩
  obtain ⟨v, l0, l1, l2, l3⟩ := step3 hb4 x
  go_wp2
  exact bodyPost_ret (v := .tuple #[V 1 (tb (hB op k b c s t)) E0, .int .i64 0]) (by simp [results, Try.results9, go_sem, l2, m2, n2, a6, a7, a8]) rfl ⟨rfl, (((((HB.trans (hb2.mono (by omega))).trans (hb3.mono (by omega))).trans (hb4.mono (by omega))).setCell (by simp; omega) _).setCell (by simp; omega) _).setCell (by simp; omega) _⟩
end
end Go.Proofs.Ytdnpeghdfhjmaab
