/- What value.Turn answers, for every operation and value; no statement of the seat is proved here. -/
import Derived.Test.YtlaamkfpdompjaaGreatDoorFitted
import Derived.Deep.RegionHeld3
namespace Go.Proofs.YtlaamkfpdompjaaGreatDoor
set_option linter.unusedVariables false
open Go.RowKit
/-- What a call that only makes memory leaves of two old blocks. -/
theorem step2 {W w2 : World} {h : Nat} (hb : Below W.heap.size W w2) (z0 : h < W.heap.size) (z1 : h + 1 < W.heap.size) :
    h < w2.heap.size ∧ h + 1 < w2.heap.size ∧ (∀ o, w2.cell? ⟨h, o, none⟩ = W.cell? ⟨h, o, none⟩) ∧ (∀ o, w2.cell? ⟨h + 1, o, none⟩ = W.cell? ⟨h + 1, o, none⟩) ∧ (∀ o, w2.frozen? ⟨h + 1, o, none⟩ = W.frozen? ⟨h + 1, o, none⟩) :=
  ⟨Nat.lt_of_lt_of_le z0 hb.size, Nat.lt_of_lt_of_le z1 hb.size, fun o => hb.cell (p := ⟨h, o, none⟩) z0, fun o => hb.cell (p := ⟨h + 1, o, none⟩) z1, fun o => hb.frozen (p := ⟨h + 1, o, none⟩) z1⟩
theorem step_drewT {w1 : World} {h : Nat} (z : h < w1.heap.size) : h < w1.drew.heap.size := z
/-- The two boxes with which such a function begins, behind its first call. -/
theorem step_box {w w1 : World} {k b : Int} {s : ByteArray} {t u : TypeId} (hb : Below ((w.alloc (.cells #[.int .u8 k, .int .u64 b, .string s] t)).alloc (.cells #[.int .u8 0, .int .u64 0, .string ⟨#[]⟩] u)).heap.size ((w.alloc (.cells #[.int .u8 k, .int .u64 b, .string s] t)).alloc (.cells #[.int .u8 0, .int .u64 0, .string ⟨#[]⟩] u)) w1) :
    w.heap.size < w1.heap.size ∧ w.heap.size + 1 < w1.heap.size ∧ w1.cell? ⟨w.heap.size, 0, none⟩ = some (.int .u8 k) ∧ w1.cell? ⟨w.heap.size, 1, none⟩ = some (.int .u64 b) ∧ w1.cell? ⟨w.heap.size, 2, none⟩ = some (.string s) ∧
    w1.cell? ⟨w.heap.size + 1, 0, none⟩ = some (.int .u8 0) ∧ w1.cell? ⟨w.heap.size + 1, 1, none⟩ = some (.int .u64 0) ∧ w1.cell? ⟨w.heap.size + 1, 2, none⟩ = some (.string ⟨#[]⟩) ∧
    (∀ o, w1.frozen? ⟨w.heap.size + 1, o, none⟩ = false) ∧ Below w.heap.size w w1 := by
  have hs := hb.size
  simp only [World.size_alloc] at hs
  refine ⟨by omega, by omega, ?_, ?_, ?_, ?_, ?_, ?_, ?_, (((Below.refl _ _).alloc (Nat.le_refl _) _).alloc (by simp) _).trans (hb.mono (by simp; omega))⟩
  · rw [hb.cell (p := ⟨w.heap.size, 0, none⟩) (by simp; omega)]; simp
  · rw [hb.cell (p := ⟨w.heap.size, 1, none⟩) (by simp; omega)]; simp
  · rw [hb.cell (p := ⟨w.heap.size, 2, none⟩) (by simp; omega)]; simp
  · rw [hb.cell (p := ⟨w.heap.size + 1, 0, none⟩) (by simp)]; simp
  · rw [hb.cell (p := ⟨w.heap.size + 1, 1, none⟩) (by simp)]; simp
  · rw [hb.cell (p := ⟨w.heap.size + 1, 2, none⟩) (by simp)]; simp
  · intro o
    rw [hb.frozen (p := ⟨w.heap.size + 1, o, none⟩) (by simp)]; simp
theorem fitted_yes (k n fault : Int) (w : World) (hk : 0 ≤ k ∧ k < 256) (g : -18446744073709551616 < n ∧ n < 18446744073709551616) (h : fitOk k n = true) :
    Calls Tryz.prog 28 #[.int .u8 k, NB n, .int .i64 fault] w fun e w' => e = .returned (.tuple #[V k (n % 18446744073709551616) E0, .int .i64 0]) ∧ Below w.heap.size w w' := by
  have := fitted_of k n fault w hk g
  rwa [← RV_t h] at this
theorem fitted_no (k n fault : Int) (w : World) (hk : 0 ≤ k ∧ k < 256) (g : -18446744073709551616 < n ∧ n < 18446744073709551616) (h : fitOk k n = false) :
    Calls Tryz.prog 28 #[.int .u8 k, NB n, .int .i64 fault] w fun e w' => e = .returned (.tuple #[V 0 0 E0, .int .i64 fault]) ∧ Below w.heap.size w w' := by
  have := fitted_of k n fault w hk g
  rwa [← RV_f h] at this
end Go.Proofs.YtlaamkfpdompjaaGreatDoor
