/- What both Joins and both Parts answer, for every value and kind; no statement of the seat is proved here. -/
import Derived.Test.YtfihbpglnnheiaaGreatDoorMayV
namespace Go.Proofs.YtfihbpglnnheiaaGreatDoor
set_option linter.unusedVariables false
open Go.RowKit
abbrev E0 : ByteArray := ⟨#[]⟩
abbrev ZC (u : TypeId) : Obj := .cells #[.int .u8 0, .int .u64 0, .string ⟨#[]⟩] u
/-- Two values' boxes and a result's, behind a first call. -/
theorem step_ab0 {w w1 : World} {k b k' c : Int} {s t : ByteArray} {u v x : TypeId}
    (hb : Below (((w.alloc (.cells #[.int .u8 k, .int .u64 b, .string s] u)).alloc (.cells #[.int .u8 k', .int .u64 c, .string t] v)).alloc (ZC x)).heap.size (((w.alloc (.cells #[.int .u8 k, .int .u64 b, .string s] u)).alloc (.cells #[.int .u8 k', .int .u64 c, .string t] v)).alloc (ZC x)) w1) :
    w.heap.size + 1 + 1 < w1.heap.size ∧ w1.cell? ⟨w.heap.size, 0, none⟩ = some (.int .u8 k) ∧ w1.cell? ⟨w.heap.size, 1, none⟩ = some (.int .u64 b) ∧ w1.cell? ⟨w.heap.size, 2, none⟩ = some (.string s) ∧
    w1.cell? ⟨w.heap.size + 1, 0, none⟩ = some (.int .u8 k') ∧ w1.cell? ⟨w.heap.size + 1, 1, none⟩ = some (.int .u64 c) ∧ w1.cell? ⟨w.heap.size + 1, 2, none⟩ = some (.string t) ∧
    w1.cell? ⟨w.heap.size + 1 + 1, 0, none⟩ = some (.int .u8 0) ∧ w1.cell? ⟨w.heap.size + 1 + 1, 1, none⟩ = some (.int .u64 0) ∧ w1.cell? ⟨w.heap.size + 1 + 1, 2, none⟩ = some (.string ⟨#[]⟩) ∧
    (∀ o, w1.frozen? ⟨w.heap.size + 1 + 1, o, none⟩ = false) ∧ Below w.heap.size w w1 := by
  have hs := hb.size
  simp only [World.size_alloc] at hs
  refine ⟨by omega, ?_, ?_, ?_, ?_, ?_, ?_, ?_, ?_, ?_, ?_, ((((Below.refl _ _).alloc (Nat.le_refl _) _).alloc (by simp) _).alloc (by simp; omega) _).trans (hb.mono (by simp; omega))⟩
  · rw [hb.cell (p := ⟨w.heap.size, 0, none⟩) (by simp; omega)]; simp [ZC, go_sem]
  · rw [hb.cell (p := ⟨w.heap.size, 1, none⟩) (by simp; omega)]; simp [ZC, go_sem]
  · rw [hb.cell (p := ⟨w.heap.size, 2, none⟩) (by simp; omega)]; simp [ZC, go_sem]
  · rw [hb.cell (p := ⟨w.heap.size + 1, 0, none⟩) (by simp)]; simp [ZC, go_sem]
  · rw [hb.cell (p := ⟨w.heap.size + 1, 1, none⟩) (by simp)]; simp [ZC, go_sem]
  · rw [hb.cell (p := ⟨w.heap.size + 1, 2, none⟩) (by simp)]; simp [ZC, go_sem]
  · rw [hb.cell (p := ⟨w.heap.size + 1 + 1, 0, none⟩) (by simp)]; simp [ZC, go_sem]
  · rw [hb.cell (p := ⟨w.heap.size + 1 + 1, 1, none⟩) (by simp)]; simp [ZC, go_sem]
  · rw [hb.cell (p := ⟨w.heap.size + 1 + 1, 2, none⟩) (by simp)]; simp [ZC, go_sem]
  · intro o
    rw [hb.frozen (p := ⟨w.heap.size + 1 + 1, o, none⟩) (by simp)]; simp [ZC, go_sem]
/-- What a call that only makes memory leaves of three old blocks. -/
theorem step3 {W w2 : World} {h : Nat} (hb : Below W.heap.size W w2) (z : h + 1 + 1 < W.heap.size) :
    h + 1 + 1 < w2.heap.size ∧ (∀ o, w2.cell? ⟨h, o, none⟩ = W.cell? ⟨h, o, none⟩) ∧ (∀ o, w2.cell? ⟨h + 1, o, none⟩ = W.cell? ⟨h + 1, o, none⟩) ∧ (∀ o, w2.cell? ⟨h + 1 + 1, o, none⟩ = W.cell? ⟨h + 1 + 1, o, none⟩) ∧ (∀ o, w2.frozen? ⟨h + 1 + 1, o, none⟩ = W.frozen? ⟨h + 1 + 1, o, none⟩) :=
  ⟨Nat.lt_of_lt_of_le z hb.size, fun o => hb.cell (p := ⟨h, o, none⟩) (by show h < _; omega), fun o => hb.cell (p := ⟨h + 1, o, none⟩) (by show h + 1 < _; omega), fun o => hb.cell (p := ⟨h + 1 + 1, o, none⟩) z, fun o => hb.frozen (p := ⟨h + 1 + 1, o, none⟩) z⟩
/-- What a call that only makes memory leaves of two old blocks. -/
theorem step2 {W w2 : World} {h : Nat} (hb : Below W.heap.size W w2) (z0 : h < W.heap.size) (z1 : h + 1 < W.heap.size) :
    h < w2.heap.size ∧ h + 1 < w2.heap.size ∧ (∀ o, w2.cell? ⟨h, o, none⟩ = W.cell? ⟨h, o, none⟩) ∧ (∀ o, w2.cell? ⟨h + 1, o, none⟩ = W.cell? ⟨h + 1, o, none⟩) ∧ (∀ o, w2.frozen? ⟨h + 1, o, none⟩ = W.frozen? ⟨h + 1, o, none⟩) :=
  ⟨Nat.lt_of_lt_of_le z0 hb.size, Nat.lt_of_lt_of_le z1 hb.size, fun o => hb.cell (p := ⟨h, o, none⟩) z0, fun o => hb.cell (p := ⟨h + 1, o, none⟩) z1, fun o => hb.frozen (p := ⟨h + 1, o, none⟩) z1⟩
theorem step_drew {w1 : World} {h : Nat} (z : h < w1.heap.size) : h < w1.drew.heap.size := z
/-- The two boxes with which such a function begins, behind its first call. -/
theorem step_box {w w1 : World} {k b : Int} {s : ByteArray} {t u : TypeId} (hb : Below ((w.alloc (.cells #[.int .u8 k, .int .u64 b, .string s] t)).alloc (.cells #[.int .u8 0, .int .u64 0, .string ⟨#[]⟩] u)).heap.size ((w.alloc (.cells #[.int .u8 k, .int .u64 b, .string s] t)).alloc (.cells #[.int .u8 0, .int .u64 0, .string ⟨#[]⟩] u)) w1) :
    w.heap.size < w1.heap.size ∧ w.heap.size + 1 < w1.heap.size ∧ w1.cell? ⟨w.heap.size, 0, none⟩ = some (.int .u8 k) ∧ w1.cell? ⟨w.heap.size, 1, none⟩ = some (.int .u64 b) ∧ w1.cell? ⟨w.heap.size, 2, none⟩ = some (.string s) ∧
    w1.cell? ⟨w.heap.size + 1, 0, none⟩ = some (.int .u8 0) ∧ w1.cell? ⟨w.heap.size + 1, 1, none⟩ = some (.int .u64 0) ∧ w1.cell? ⟨w.heap.size + 1, 2, none⟩ = some (.string ⟨#[]⟩) ∧
    (∀ o, w1.frozen? ⟨w.heap.size + 1, o, none⟩ = false) ∧ Below w.heap.size w w1 := by
  have hs := hb.size
  simp only [World.size_alloc] at hs
  refine ⟨by omega, by omega, ?_, ?_, ?_, ?_, ?_, ?_, ?_, (((Below.refl _ _).alloc (Nat.le_refl _) _).alloc (by simp) _).trans (hb.mono (by simp; omega))⟩
  · rw [hb.cell (p := ⟨w.heap.size, 0, none⟩) (by simp; omega)]; simp
  · rw [hb.cell (p := ⟨w.heap.size, 1, none⟩) (by simp; omega)]; simp
  · rw [hb.cell (p := ⟨w.heap.size, 2, none⟩) (by simp; omega)]; simp
  · rw [hb.cell (p := ⟨w.heap.size + 1, 0, none⟩) (by simp)]; simp
  · rw [hb.cell (p := ⟨w.heap.size + 1, 1, none⟩) (by simp)]; simp
  · rw [hb.cell (p := ⟨w.heap.size + 1, 2, none⟩) (by simp)]; simp
  · intro o
    rw [hb.frozen (p := ⟨w.heap.size + 1, o, none⟩) (by simp)]; simp
theorem May_is (k b : Int) (s : ByteArray) (w : World) (p : Bool) (h0 : 0 ≤ b) (h1 : b < 18446744073709551616) (hk : 0 ≤ k ∧ k < 256) (hs : s.size ≤ maxLen) (h : may3 k b s = p) :
    Calls Tryz.prog 12 #[V k b s] w fun e w' => e = .returned (.bool p) ∧ Below w.heap.size w w' := by
  rw [← h]; exact May_of k b s w h0 h1 hk hs
theorem MayR_is (k b : Int) (s : ByteArray) (w : World) (p : Bool) (h0 : 0 ≤ b) (h1 : b < 18446744073709551616) (hk : 0 ≤ k ∧ k < 256) (hs : s.size ≤ maxLen) (h : may3 k b s = p) :
    Calls Tryz.prog 5 #[V k b s] w fun e w' => e = .returned (.bool p) ∧ Below w.heap.size w w' := by
  rw [← h]; exact MayR_of k b s w h0 h1 hk hs
/-- A day and a time of day together. -/
def joinOk (k b k' c : Int) (s t : ByteArray) : Bool := decide (k = 15 ∧ k' = 16) && may3 k b s && may3 k' c t
abbrev JV (k b k' c : Int) (s t : ByteArray) : Value := .tuple #[if joinOk k b k' c s t then V 17 (b + c) E0 else V 0 0 E0, .bool (joinOk k b k' c s t)]
theorem JV_f {k b k' c : Int} {s t : ByteArray} (h : joinOk k b k' c s t = false) : Ending.returned (.tuple #[V 0 0 E0, .bool false]) = .returned (JV k b k' c s t) := by simp [JV, h]
theorem JV_t {k b k' c : Int} {s t : ByteArray} (h : joinOk k b k' c s t = true) : Ending.returned (.tuple #[V 17 (b + c) E0, .bool true]) = .returned (JV k b k' c s t) := by simp [JV, h]
theorem join_a {k : Int} (b k' c : Int) (s t : ByteArray) (d : (k != 15) = true) : joinOk k b k' c s t = false := by
  have h : ¬ k = 15 := by simpa using d
  simp [joinOk, h]
theorem join_b {k' : Int} (k b c : Int) (s t : ByteArray) (d : (k' != 16) = true) : joinOk k b k' c s t = false := by
  have h : ¬ k' = 16 := by simpa using d
  simp [joinOk, h]
section
variable (k b k' c : Int) (s t : ByteArray) (w : World)
set_option maxHeartbeats 1000000 in
theorem Join_a (d : (k != 15) = true) : Calls Tryz.prog 7 #[V k b s, V k' c t] w fun e w' => e = .returned (JV k b k' c s t) ∧ Below w.heap.size w w' := by
  have R : Hid _ := JV_f (join_a b k' c s t d)
  go_enter Tryz.func7, Tryz.ntmps7
  go_wp2
  exact bodyPost_ret (v := .tuple #[V 0 0 E0, .bool false]) (by simp [results, Tryz.results7, go_sem]) rfl ⟨R.out, (((Below.refl _ _).alloc (Nat.le_refl _) _).alloc (by simp) _).alloc (by simp; omega) _⟩
set_option maxHeartbeats 1000000 in
theorem Join_b (d : (k' != 16) = true) : Calls Tryz.prog 7 #[V 15 b s, V k' c t] w fun e w' => e = .returned (JV 15 b k' c s t) ∧ Below w.heap.size w w' := by
  have R : Hid _ := JV_f (join_b 15 b c s t d)
  go_enter Tryz.func7, Tryz.ntmps7
  go_wp2
  exact bodyPost_ret (v := .tuple #[V 0 0 E0, .bool false]) (by simp [results, Tryz.results7, go_sem]) rfl ⟨R.out, (((Below.refl _ _).alloc (Nat.le_refl _) _).alloc (by simp) _).alloc (by simp; omega) _⟩
set_option maxHeartbeats 1000000 in
theorem Join_c (h0 : 0 ≤ b) (h1 : b < 18446744073709551616) (hs : s.size ≤ maxLen) (g0 : 0 ≤ c) (g1 : c < 18446744073709551616) (gs : t.size ≤ maxLen) (m : may3 15 b s = false) : Calls Tryz.prog 7 #[V 15 b s, V 16 c t] w fun e w' => e = .returned (JV 15 b 16 c s t) ∧ Below w.heap.size w w' := by
  have R : Hid _ := JV_f (b := b) (c := c) (k' := 16) (s := s) (t := t) (k := 15) (by simp [joinOk, m])
  have M : Hid _ := m
  clear m
  go_enter Tryz.func7, Tryz.ntmps7
  go_wp2_with fail
  refine (May_is _ _ _ _ false h0 h1 (by omega) hs M.out).mono ?_
  rintro e w1 ⟨rfl, hb⟩
  obtain ⟨z, a0, a1, a2, a3, a4, a5, a6, a7, a8, a9, HB⟩ := step_ab0 hb
  clear hb
  go_wp2
  exact bodyPost_ret (v := .tuple #[V 0 0 E0, .bool false]) (by simp [results, Tryz.results7, go_sem, a6, a7, a8]) rfl ⟨R.out, ((HB.setCell (by simp; omega) _).setCell (by simp; omega) _).setCell (by simp; omega) _⟩
set_option maxHeartbeats 1000000 in
theorem Join_d (h0 : 0 ≤ b) (h1 : b < 18446744073709551616) (hs : s.size ≤ maxLen) (g0 : 0 ≤ c) (g1 : c < 18446744073709551616) (gs : t.size ≤ maxLen) (m : may3 15 b s = true) (n : may3 16 c t = false) : Calls Tryz.prog 7 #[V 15 b s, V 16 c t] w fun e w' => e = .returned (JV 15 b 16 c s t) ∧ Below w.heap.size w w' := by
  have R : Hid _ := JV_f (b := b) (c := c) (k' := 16) (s := s) (t := t) (k := 15) (by simp [joinOk, n])
  have M : Hid _ := m
  have N : Hid _ := n
  clear m n
  go_enter Tryz.func7, Tryz.ntmps7
  go_wp2_with fail
  refine (May_is _ _ _ _ true h0 h1 (by omega) hs M.out).mono ?_
  rintro e w1 ⟨rfl, hb⟩
  obtain ⟨z, a0, a1, a2, a3, a4, a5, a6, a7, a8, a9, HB⟩ := step_ab0 hb
  clear hb
  go_wp2_with fail
  refine (May_is _ _ _ _ false g0 g1 (by omega) gs N.out).mono ?_
  rintro e w2 ⟨rfl, hb2⟩
  obtain ⟨y, n0, n1, n2, n3⟩ := step3 hb2 z
  go_wp2
  exact bodyPost_ret (v := .tuple #[V 0 0 E0, .bool false]) (by simp [results, Tryz.results7, go_sem, n2, a6, a7, a8]) rfl ⟨R.out, (((HB.trans (hb2.mono (by omega))).setCell (by simp; omega) _).setCell (by simp; omega) _).setCell (by simp; omega) _⟩
set_option maxHeartbeats 1000000 in
theorem Join_e (h0 : 0 ≤ b) (h1 : b < 18446744073709551616) (hs : s.size ≤ maxLen) (g0 : 0 ≤ c) (g1 : c < 18446744073709551616) (gs : t.size ≤ maxLen) (l1 : b < 7258118400000000000) (l2 : c < 86400000000000) (m : may3 15 b s = true) (n : may3 16 c t = true) : Calls Tryz.prog 7 #[V 15 b s, V 16 c t] w fun e w' => e = .returned (JV 15 b 16 c s t) ∧ Below w.heap.size w w' := by
  have R : Hid _ := JV_t (b := b) (c := c) (k' := 16) (s := s) (t := t) (k := 15) (by simp [joinOk, m, n])
  have M : Hid _ := m
  have N : Hid _ := n
  clear m n
  go_enter Tryz.func7, Tryz.ntmps7
  go_wp2_with fail
  refine (May_is _ _ _ _ true h0 h1 (by omega) hs M.out).mono ?_
  rintro e w1 ⟨rfl, hb⟩
  obtain ⟨z, a0, a1, a2, a3, a4, a5, a6, a7, a8, a9, HB⟩ := step_ab0 hb
  clear hb
  go_wp2_with fail
  refine (May_is _ _ _ _ true g0 g1 (by omega) gs N.out).mono ?_
  rintro e w2 ⟨rfl, hb2⟩
  obtain ⟨y, n0, n1, n2, n3⟩ := step3 hb2 z
  go_wp2
  exact bodyPost_ret (v := .tuple #[V 17 (b + c) E0, .bool true]) (by simp [results, Tryz.results7, go_sem, n2, a6, a7, a8]) rfl ⟨R.out, (((HB.trans (hb2.mono (by omega))).setCell (by simp; omega) _).setCell (by simp; omega) _).setCell (by simp; omega) _⟩
theorem Join_of (h0 : 0 ≤ b) (h1 : b < 18446744073709551616) (hs : s.size ≤ maxLen) (g0 : 0 ≤ c) (g1 : c < 18446744073709551616) (gs : t.size ≤ maxLen) : Calls Tryz.prog 7 #[V k b s, V k' c t] w fun e w' => e = .returned (JV k b k' c s t) ∧ Below w.heap.size w w' := by
  by_cases d : k = 15
  · subst d
    by_cases f : k' = 16
    · subst f
      cases m : may3 15 b s
      · exact Join_c b c s t w h0 h1 hs g0 g1 gs m
      cases n : may3 16 c t
      · exact Join_d b c s t w h0 h1 hs g0 g1 gs m n
      have l1 : b < 7258118400000000000 := by
        by_cases l : b < 7258118400000000000
        · exact l
        · simp [may3, mw15f b l] at m
      have l2 : c < 86400000000000 := by
        simp [may3, mw16] at n; exact n.2
      exact Join_e b c s t w h0 h1 hs g0 g1 gs l1 l2 m n
    · exact Join_b b k' c s t w (by simpa using f)
  · exact Join_a k b k' c s t w (by simpa using d)
end
end Go.Proofs.YtfihbpglnnheiaaGreatDoor
