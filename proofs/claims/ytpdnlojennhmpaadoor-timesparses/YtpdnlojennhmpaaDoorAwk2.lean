/- What findUnit, nanos and cutPart answer at the text 1s; no statement of the seat is proved here. -/
import Derived.Test.YtpdnlojennhmpaaDoorAwk1
import Derived.Deep.RegionHeld3
namespace Go.Proofs.YtpdnlojennhmpaaDoor
set_option linter.unusedVariables false
open Go.RowKit
/-- The table of the units lies as it was laid, as far as a span of a second needs it. -/
structure UT (w : World) : Prop where
  d : w.cell? ⟨0, 0, none⟩ = some (.string ⟨#[68]⟩)
  h : w.cell? ⟨0, 3, none⟩ = some (.string ⟨#[72]⟩)
  m : w.cell? ⟨0, 6, none⟩ = some (.string ⟨#[77]⟩)
  s : w.cell? ⟨0, 9, none⟩ = some (.string ⟨#[83]⟩)
  n : w.cell? ⟨0, 10, none⟩ = some (.int .i64 1000000000)
  b : w.cell? ⟨0, 11, none⟩ = some (.int .i64 60)
abbrev P1 : Value := .agg #[.string s1, .string s0, .bool false, .string ss]
set_option maxHeartbeats 1000000 in
theorem findUnit_S (w : World) (u : UT w) : Calls Tryd.prog 16 #[.string sS, .int .i64 0] w fun e w' => e = .returned (.tuple #[.int .i64 3, .bool true]) ∧ w' = w := by
  obtain ⟨d, h, m, s, n, b⟩ := u
  go_enter Tryd.func16, Tryd.ntmps16
  go_wp2
  go_rounds 5
  go_ret2
  exact ⟨rfl, rfl⟩
set_option maxHeartbeats 1000000 in
theorem nanos_1s (w : World) : Calls Tryd.prog 18 #[P1, .agg #[.string sS, .int .i64 1000000000, .int .i64 60], .bool true] w fun e w' => e = .returned (.tuple #[.int .i64 1000000000, .bool true]) ∧ Below w.heap.size w w' := by
  go_enter Tryd.func18, Tryd.ntmps18
  go_wp2_with (first | (go_at_call 47; refine (num_a _).mono ?_; rintro e w1 ⟨rfl, rfl⟩) | (go_at_call 26; refine (frac_a _).mono ?_; rintro e w2 ⟨rfl, rfl⟩))
  go_ret2
  exact ⟨rfl, ((Below.refl _ _).alloc (Nat.le_refl _) _).alloc (by simp) _⟩
theorem bb2 {w w1 : World} {x y : Obj} (hb : Below ((w.alloc x).alloc y).heap.size ((w.alloc x).alloc y) w1) :
    (∀ o, w1.cell? ⟨w.heap.size, o, none⟩ = ((w.alloc x).alloc y).cell? ⟨w.heap.size, o, none⟩) ∧ (∀ o, w1.cell? ⟨w.heap.size + 1, o, none⟩ = ((w.alloc x).alloc y).cell? ⟨w.heap.size + 1, o, none⟩) ∧ (∀ o, w1.frozen? ⟨w.heap.size, o, none⟩ = ((w.alloc x).alloc y).frozen? ⟨w.heap.size, o, none⟩) ∧ (∀ o, w1.frozen? ⟨w.heap.size + 1, o, none⟩ = ((w.alloc x).alloc y).frozen? ⟨w.heap.size + 1, o, none⟩) ∧
    Below w.heap.size w w1 ∧ w.heap.size + 1 < w1.heap.size := by
  have hs := hb.size
  simp at hs
  exact ⟨fun o => hb.cell (p := ⟨w.heap.size, o, none⟩) (by simp; omega), fun o => hb.cell (p := ⟨w.heap.size + 1, o, none⟩) (by simp), fun o => hb.frozen (p := ⟨w.heap.size, o, none⟩) (by simp; omega), fun o => hb.frozen (p := ⟨w.heap.size + 1, o, none⟩) (by simp),
    (((Below.refl _ _).alloc (Nat.le_refl _) _).alloc (by simp) _).trans (hb.mono (by simp; omega)), by omega⟩
theorem bb3 {W w2 : World} {h : Nat} (hb : Below W.heap.size W w2) (z : h + 1 < W.heap.size) :
    (∀ o, w2.cell? ⟨h, o, none⟩ = W.cell? ⟨h, o, none⟩) ∧ (∀ o, w2.cell? ⟨h + 1, o, none⟩ = W.cell? ⟨h + 1, o, none⟩) ∧ (∀ o, w2.frozen? ⟨h, o, none⟩ = W.frozen? ⟨h, o, none⟩) ∧ (∀ o, w2.frozen? ⟨h + 1, o, none⟩ = W.frozen? ⟨h + 1, o, none⟩) ∧ h + 1 < w2.heap.size :=
  ⟨fun o => hb.cell (p := ⟨h, o, none⟩) (by show h < _; omega), fun o => hb.cell (p := ⟨h + 1, o, none⟩) z, fun o => hb.frozen (p := ⟨h, o, none⟩) (by show h < _; omega), fun o => hb.frozen (p := ⟨h + 1, o, none⟩) z, Nat.lt_of_lt_of_le z hb.size⟩
set_option maxHeartbeats 1000000 in
theorem cutPart_1s (w : World) : Calls Tryd.prog 15 #[.string s1s] w fun e w' => e = .returned (.tuple #[P1, .string s0]) ∧ Below w.heap.size w w' := by
  go_enter Tryd.func15, Tryd.ntmps15
  go_wp2_with fail
  refine (cut_a _).mono ?_
  rintro e w1 ⟨rfl, hb⟩
  obtain ⟨c0, c1, f0, f1, B1, z1⟩ := bb2 hb
  clear hb
  go_wp2_with (go_at_call 14; refine (pre_b _).mono ?_; rintro e w2 ⟨rfl, rfl⟩)
  refine (cut_b _).mono ?_
  rintro e w3 ⟨rfl, hb3⟩
  obtain ⟨d0, d1, g0, g1, z3⟩ := bb3 (h := w.heap.size) hb3 (by simpa using z1)
  go_wp2
  have B3 : Below w.heap.size w w3 := ((B1.setCell (by simp) _).setCell (by simp) _).trans (hb3.mono (by simp; omega))
  refine bodyPost_ret (v := .tuple #[P1, .string s0]) (by simp [results, Tryd.results15, go_sem, d0, c0]) rfl ⟨rfl, ?_⟩
  go_grown
end Go.Proofs.YtpdnlojennhmpaaDoor
