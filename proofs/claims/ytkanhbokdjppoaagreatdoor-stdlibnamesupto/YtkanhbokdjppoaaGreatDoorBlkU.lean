/- Which cells a block takes; no statement of the seat is proved here. -/
import Derived.Test.YtkanhbokdjppoaaGreatDoorBlkT
import Derived.Test.YtkanhbokdjppoaaGreatDoorMayV
import Derived.Test.YtkanhbokdjppoaaGreatDoorSubG
namespace Go.Proofs.YtkanhbokdjppoaaGreatDoor
set_option linter.unusedVariables false
open Go.RowKit
/-- The kind that a letter means. -/
def kdN (c : Nat) : Int := if c = 66 then 1 else if c = 73 then 3 else 14
/-- The kind of a block's variable of a number. -/
def kAt (ks : ByteArray) (i : Nat) : Int := if h : i < ks.size then kdN ks[i].toNat else 14
theorem kAt_in (ks : ByteArray) (i : Nat) (h : i < ks.size) : kAt ks i = kdN ks[i].toNat := by simp [kAt, h]
theorem kdN_cases (c : Nat) : kdN c = 1 ∨ kdN c = 3 ∨ kdN c = 14 := by unfold kdN; by_cases a : c = 66 <;> by_cases b : c = 73 <;> simp [a, b]
theorem kAt_cases (ks : ByteArray) (i : Nat) : kAt ks i = 1 ∨ kAt ks i = 3 ∨ kAt ks i = 14 := by
  unfold kAt; split
  · exact kdN_cases _
  · exact .inr (.inr rfl)
theorem kd1 (n : Nat) (h : ((n : Int) == 66) = true) : 1 = kdN n := by simp at h; unfold kdN; rw [if_pos (by omega)]
theorem kd3 (n : Nat) (h : ((n : Int) == 66) = false) (g : ((n : Int) == 73) = true) : 3 = kdN n := by simp at h g; unfold kdN; rw [if_neg (by omega), if_pos (by omega)]
theorem kd14 (n : Nat) (h : ((n : Int) == 66) = false) (g : ((n : Int) == 73) = false) : 14 = kdN n := by simp at h g; unfold kdN; rw [if_neg (by omega), if_neg (by omega)]
/-- A value's parts. -/
structure Vl where
  k : Int
  b : Int
  s : ByteArray
/-- The parts are in their ranges. -/
structure VlOk (v : Vl) : Prop where
  k0 : 0 ≤ v.k
  k1 : v.k < 256
  b0 : 0 ≤ v.b
  b1 : v.b < 18446744073709551616
  s1 : v.s.size ≤ maxLen
/-- Values one behind the other in memory. -/
def VsAt (w : World) (a : Addr) (n : Nat) (v : Nat → Vl) : Prop := ∀ i, i < n → w.cell? (a.add (i * 3)) = some (.int .u8 (v i).k) ∧ w.cell? ⟨(a.add (i * 3)).block, (a.add (i * 3)).off + 1, none⟩ = some (.int .u64 (v i).b) ∧ w.cell? ⟨(a.add (i * 3)).block, (a.add (i * 3)).off + 2, none⟩ = some (.string (v i).s)
theorem VsAt.below {w wr : World} {a : Addr} {n : Nat} {v : Nat → Vl} (h : VsAt w a n v) (hb : Below w.heap.size w wr) : VsAt wr a n v := by
  intro i hi
  obtain ⟨h0, h1, h2⟩ := h i hi
  have z := block_lt_of_cell h0
  exact ⟨by rw [hb.cell z]; exact h0, by rw [hb.cell (p := ⟨(a.add (i * 3)).block, (a.add (i * 3)).off + 1, none⟩) z]; exact h1, by rw [hb.cell (p := ⟨(a.add (i * 3)).block, (a.add (i * 3)).off + 2, none⟩) z]; exact h2⟩
/-- The cells are of the kinds that a block has, and may be. -/
def tkB (ks : ByteArray) (v : Nat → Vl) (n : Nat) : Bool := decide (∀ i, i < n → (v i).k = kAt ks i ∧ may3 (v i).k (v i).b (v i).s = true)
theorem tkB_t {ks : ByteArray} {v : Nat → Vl} {n : Nat} (h : ∀ i, i < n → (v i).k = kAt ks i ∧ may3 (v i).k (v i).b (v i).s = true) : true = tkB ks v n := by unfold tkB; exact (decide_eq_true h).symm
theorem tkB_f {ks : ByteArray} {v : Nat → Vl} {n k : Nat} (hk : k < n) (h : ¬ ((v k).k = kAt ks k ∧ may3 (v k).k (v k).b (v k).s = true)) : false = tkB ks v n := by
  unfold tkB; exact (decide_eq_false (fun g => h (g k hk))).symm
/-- What a round needs of a block in its box. -/
structure BxAt (w : World) (g : Nat) (nm names ks : ByteArray) (ins outs : Int) (fn : Value) : Prop where
  c0 : w.cell? ⟨g, 0, none⟩ = some (.string nm)
  c1 : w.cell? ⟨g, 1, none⟩ = some (.string names)
  c2 : w.cell? ⟨g, 2, none⟩ = some (.string ks)
  c3 : w.cell? ⟨g, 3, none⟩ = some (.int .i64 ins)
  c4 : w.cell? ⟨g, 4, none⟩ = some (.int .i64 outs)
  c5 : w.cell? ⟨g, 5, none⟩ = some fn
theorem BxAt.below {w wr : World} {g : Nat} {nm names ks : ByteArray} {ins outs : Int} {fn : Value} (h : BxAt w g nm names ks ins outs fn) (hb : Below w.heap.size w wr) : BxAt wr g nm names ks ins outs fn := by
  have z := block_lt_of_cell h.c0
  exact ⟨(hb.cell (p := ⟨g, 0, none⟩) z).trans h.c0, (hb.cell (p := ⟨g, 1, none⟩) z).trans h.c1, (hb.cell (p := ⟨g, 2, none⟩) z).trans h.c2, (hb.cell (p := ⟨g, 3, none⟩) z).trans h.c3, (hb.cell (p := ⟨g, 4, none⟩) z).trans h.c4, (hb.cell (p := ⟨g, 5, none⟩) z).trans h.c5⟩
end Go.Proofs.YtkanhbokdjppoaaGreatDoor
