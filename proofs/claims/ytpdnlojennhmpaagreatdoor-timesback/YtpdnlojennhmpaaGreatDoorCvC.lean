/- What value.printNumber and value.Print answer, of BOOLs and integers; no statement of the seat is proved here. -/
import Derived.Test.YtpdnlojennhmpaaGreatDoorFmtU
import Derived.Test.YtpdnlojennhmpaaGreatDoorFitted
import Derived.Handy
import Derived.Deep.Light
namespace Go.Proofs.YtpdnlojennhmpaaGreatDoor
set_option linter.unusedVariables false
open Go.RowKit
theorem pow_below {w w' : World} (h : Pow w) (hb : Below w.heap.size w w') : Pow w' := by
  unfold Pow Lib.TabIs World.var? at *
  cases hg : Tryz.prog.globalNamed "internal/strconv.uint64pow10" with
  | none => simp [hg] at h
  | some g =>
    simp only [hg, Option.bind_some] at h ⊢
    have hlt : g < w.heap.size := by
      rcases Nat.lt_or_ge g w.heap.size with h' | h'
      · exact h'
      · rw [Array.getElem?_eq_none h'] at h; simp at h
    rw [hb.block g hlt]
    exact h
/-- A number's digits, as bytes. -/
def decS (u : Nat) : ByteArray := ⟨(Lib.decDigits u).toArray⟩
theorem decS_size (u : Nat) (h : u < 18446744073709551616) : (decS u).size ≤ 20 := by
  have e : (decS u).size = (Lib.decDigits u).length := by unfold decS; simp [ByteArray.size]
  rw [e, Lib.decDigits_length]
  rcases Nat.eq_zero_or_pos u with rfl | hu
  · have : Lib.nDigits 0 = 1 := by kernel_rfl
    omega
  · have := Lib.numDigits_eq u hu h
    split at this <;> omega
/-- A value lies in a box. -/
structure Lies (W : World) (p : Nat) (k b : Int) (s : ByteArray) : Prop where
  lt : p < W.heap.size
  c0 : W.cell? ⟨p, 0, none⟩ = some (.int .u8 k)
  c1 : W.cell? ⟨p, 1, none⟩ = some (.int .u64 b)
  c2 : W.cell? ⟨p, 2, none⟩ = some (.string s)
theorem Lies.next {W w' : World} {p : Nat} {k b : Int} {s : ByteArray} (h : Lies W p k b s) (hb : Below W.heap.size W w') : Lies w' p k b s :=
  ⟨Nat.lt_of_lt_of_le h.lt hb.size, by rw [hb.cell (p := ⟨p, 0, none⟩) h.lt]; exact h.c0, by rw [hb.cell (p := ⟨p, 1, none⟩) h.lt]; exact h.c1, by rw [hb.cell (p := ⟨p, 2, none⟩) h.lt]; exact h.c2⟩
theorem Lies.alloc {W : World} {p : Nat} {k b : Int} {s : ByteArray} (h : Lies W p k b s) (o : Obj) : Lies (W.alloc o) p k b s := h.next ((Below.refl _ _).alloc (Nat.le_refl _) _)
theorem Lies.new (W : World) (k b : Int) (s : ByteArray) (t : TypeId) : Lies (W.alloc (.cells #[.int .u8 k, .int .u64 b, .string s] t)) W.heap.size k b s :=
  ⟨by simp, by simp, by simp, by simp⟩
end Go.Proofs.YtpdnlojennhmpaaGreatDoor
