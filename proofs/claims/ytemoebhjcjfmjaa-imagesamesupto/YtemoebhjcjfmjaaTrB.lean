/- Texts in a row, compared; no statement of the seat is proved here. -/
import Derived.Test.YtemoebhjcjfmjaaSubG
import Derived.Handy
namespace Go.Proofs.Ytemoebhjcjfmjaa
set_option linter.unusedVariables false
open Go.RowKit
theorem ba_ext {a b : ByteArray} (h : a.toList = b.toList) : a = b := by
  cases a with
  | mk x =>
    cases b with
    | mk y =>
      rw [ByteArray.toList_eq, ByteArray.toList_eq] at h
      exact congrArg ByteArray.mk (Array.toList_inj.1 h)
theorem msr {k n : Nat} (h : k < n) : n - (intOf (.int .i64 ((k : Int) + 1))).toNat < n - (intOf (.int .i64 (k : Int))).toNat := by
  show n - ((k : Int) + 1).toNat < n - ((k : Int)).toNat
  omega
/-- Texts in a row. -/
def NmAt (w : World) (x : Option Addr) (l : List ByteArray) : Prop := (x = none → l = []) ∧ ∀ a, x = some a → ∀ i s, l[i]? = some s → w.cell? (a.add i) = some (.string s)
theorem NmAt.some {w : World} {x : Option Addr} {l : List ByteArray} (h : NmAt w x l) (hl : 0 < l.length) : ∃ a, x = .some a := by
  cases x with
  | none => rw [h.1 rfl] at hl; exact absurd hl (by decide)
  | some a => exact ⟨a, rfl⟩
theorem NmAt.cell {w : World} {a : Addr} {l : List ByteArray} (h : NmAt w (Option.some a) l) (k : Nat) (hk : k < l.length) : ∃ s, l[k]? = Option.some s ∧ w.cell? (a.add k) = Option.some (.string s) := ⟨l[k], List.getElem?_eq_getElem hk, h.2 a rfl k _ (List.getElem?_eq_getElem hk)⟩
theorem NmAt.below {w w' : World} {x : Option Addr} {l : List ByteArray} (h : NmAt w x l) (hb : Below w.heap.size w w') : NmAt w' x l := ⟨h.1, fun a e i s hs => by have c := h.2 a e i s hs; exact (hb.cell (block_lt_of_cell c)).trans c⟩
end Go.Proofs.Ytemoebhjcjfmjaa
