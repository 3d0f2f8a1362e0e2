/- What the value package's fitted comes to; no statement of the seat is proved here. -/
import Derived.Test.YtopkdenefoifjaaDoorMade
namespace Go.Proofs.YtopkdenefoifjaaDoor
set_option linter.unusedVariables false
open Go.RowKit
/-- Is there a value of a kind that has that number? -/
def fitOk (k n : Int) : Bool := may3 k (n % 18446744073709551616) E0 && decide (num k (n % 18446744073709551616) = n)
theorem hE0 : E0.size ≤ maxLen := by decide
theorem May_is (k b : Int) (s : ByteArray) (w : World) (p : Bool) (h0 : 0 ≤ b) (h1 : b < 18446744073709551616) (hk : 0 ≤ k ∧ k < 256) (hs : s.size ≤ maxLen) (h : may3 k b s = p) :
    Calls Tryd.prog 12 #[V k b s] w fun e w' => e = .returned (.bool p) ∧ Below w.heap.size w w' := by
  rw [← h]; exact May_of k b s w h0 h1 hk hs
theorem numberOf_is (k b : Int) (s : ByteArray) (w : World) {p : Bool} {z : Int} (h0 : 0 ≤ b) (h1 : b < 18446744073709551616) (h : NB (num k b) = .agg #[.bool p, .int .u64 z]) :
    Calls Tryd.prog 17 #[V k b s] w fun e w' => e = .returned (.agg #[.bool p, .int .u64 z]) ∧ Below w.heap.size w w' := by
  rw [← h]; exact numberOf_of k b s w h0 h1
theorem below_three {w w1 : World} {x y z : Obj} (hb : Below (((w.alloc x).alloc y).alloc z).heap.size (((w.alloc x).alloc y).alloc z) w1) {u v t : Value} {i j l : Nat} :
    Below w.heap.size w (((w1.setCell ⟨w.heap.size + 1, i, none⟩ u).setCell ⟨w.heap.size + 1, j, none⟩ v).setCell ⟨w.heap.size + 1, l, none⟩ t) :=
  (((((((Below.refl _ _).alloc (Nat.le_refl _) _).alloc (by simp) _).alloc (by simp; omega) _).trans (hb.mono (by simp; omega))).setCell (by simp) _).setCell (by simp) _).setCell (by simp) _
theorem NB_raw_pos {n : Int} (h : 0 ≤ n) : NB n = .agg #[.bool false, .int .u64 n] := by
  have e : (n.natAbs : Int) = n := by omega
  have c : ¬ n < 0 := by omega
  simp [NB, c, e]
theorem NB_raw_neg {n : Int} (h : n < 0) : NB n = .agg #[.bool true, .int .u64 n.natAbs] := by simp [NB, h]
theorem bits_neg (n : Int) (h : n < 0) (g : -18446744073709551616 < n) : IntKind.u64.wrap (-(n.natAbs : Int)) = n % 18446744073709551616 := by rw [IntKind.wrap_u64]; omega
theorem num_cases (k b : Int) (h0 : 0 ≤ b) (h1 : b < 18446744073709551616) : (num k b = b ∧ 0 ≤ num k b) ∨ (num k b = b - 18446744073709551616 ∧ num k b < 0) := by
  unfold num wrap64; split <;> omega
end Go.Proofs.YtopkdenefoifjaaDoor
