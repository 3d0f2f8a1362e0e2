/- What Step answers, for whatever block whose step is known; no statement of the seat is proved here. -/
import Derived.Test.YtjnegbjgogkamaaDoorBlkU
import Derived.Test.YtjnegbjgogkamaaDoorBlkA
import Derived.Test.YtjnegbjgogkamaaDoorNumV
import Derived.Laws.MakeOwn
namespace Go.Proofs.YtjnegbjgogkamaaDoor
set_option linter.unusedVariables false
open Go.RowKit
theorem NBk.below {w w' : World} {g : Nat} {l : List Int} (h : NBk w g l) (hb : Below w.heap.size w w') : NBk w' g l := by
  unfold NBk at h ⊢; rw [hb.block g (lt_of_block h)]; exact h
theorem NBk.alloc {w : World} {g : Nat} {l : List Int} (h : NBk w g l) (o : Obj) : NBk (w.alloc o) g l := h.below ((Below.refl _ _).alloc (Nat.le_refl _) _)
theorem NBk.other {w : World} {g : Nat} {l : List Int} (h : NBk w g l) {a : Addr} (ha : g ≠ a.block) (u : Value) : NBk (w.setCell a u) g l := by
  unfold NBk at h ⊢; rw [Below.heap_setCell _ _ _ _ ha]; exact h
theorem BxAt.other {w : World} {g : Nat} {nm names ks : ByteArray} {ins outs : Int} {fn : Value} (h : BxAt w g nm names ks ins outs fn) {w' : World} (hb : w'.heap[g]? = w.heap[g]?) : BxAt w' g nm names ks ins outs fn := by
  have e : ∀ o, w'.cell? ⟨g, o, none⟩ = w.cell? ⟨g, o, none⟩ := fun o => World.cell?_of_block (w := w) (a := ⟨g, o, none⟩) hb
  exact ⟨(e 0).trans h.c0, (e 1).trans h.c1, (e 2).trans h.c2, (e 3).trans h.c3, (e 4).trans h.c4, (e 5).trans h.c5⟩
/-- A row of n values in a block of its own, which may be written. -/
def Row3 (w : World) (g n : Nat) (v : Nat → Vl) : Prop := ∃ A : Array Value, w.heap[g]? = some (.cells A 34 (0, 0)) ∧ n * 3 ≤ A.size ∧
  ∀ i, i < n → A[i * 3]? = some (.int .u8 (v i).k) ∧ A[i * 3 + 1]? = some (.int .u64 (v i).b) ∧ A[i * 3 + 2]? = some (.string (v i).s)
theorem Row3.at {w : World} {g n : Nat} {v : Nat → Vl} (h : Row3 w g n v) : VsAt w ⟨g, 0, none⟩ n v := by
  obtain ⟨A, h1, h2, h3⟩ := h
  intro i hi
  have e : (⟨g, 0, none⟩ : Addr).add (i * 3) = ⟨g, i * 3, none⟩ := by unfold Addr.add; split <;> simp_all
  obtain ⟨a, b, c⟩ := h3 i hi
  rw [e]
  exact ⟨by simp [World.cell?, h1, a], by simp [World.cell?, h1, b], by simp [World.cell?, h1, c]⟩
theorem Row3.cellsEx {w : World} {g n : Nat} {v : Nat → Vl} (h : Row3 w g n v) (i : Nat) (hi : i < n) : ∃ y0 y1 y2, w.cell? ⟨g, i * 3, none⟩ = some y0 ∧ w.cell? ⟨g, i * 3 + 1, none⟩ = some y1 ∧ w.cell? ⟨g, i * 3 + 2, none⟩ = some y2 := by
  obtain ⟨A, h1, h2, h3⟩ := h
  obtain ⟨a, b, c⟩ := h3 i hi
  exact ⟨.int .u8 (v i).k, .int .u64 (v i).b, .string (v i).s, by simp [World.cell?, h1, a], by simp [World.cell?, h1, b], by simp [World.cell?, h1, c]⟩
theorem Row3.lt {w : World} {g n : Nat} {v : Nat → Vl} (h : Row3 w g n v) : g < w.heap.size := by obtain ⟨A, h1, _⟩ := h; exact lt_of_block h1
theorem Row3.free {w : World} {g n : Nat} {v : Nat → Vl} (h : Row3 w g n v) (i : Nat) : w.frozen? ⟨g, i, none⟩ = false := by obtain ⟨A, h1, _⟩ := h; simp [World.frozen?, h1]
theorem Row3.below {w w' : World} {g n : Nat} {v : Nat → Vl} (h : Row3 w g n v) (hb : Below w.heap.size w w') : Row3 w' g n v := by
  have z := h.lt
  obtain ⟨A, h1, h2⟩ := h; exact ⟨A, by rw [hb.block g z]; exact h1, h2⟩
theorem Row3.other {w w' : World} {g n : Nat} {v : Nat → Vl} (h : Row3 w g n v) (e : w'.heap[g]? = w.heap[g]?) : Row3 w' g n v := by
  obtain ⟨A, h1, h2⟩ := h; exact ⟨A, by rw [e]; exact h1, h2⟩
theorem Row3.congr {w : World} {g n : Nat} {v u : Nat → Vl} (h : Row3 w g n v) (e : ∀ i, i < n → v i = u i) : Row3 w g n u := by
  obtain ⟨A, h1, h2, h3⟩ := h; exact ⟨A, h1, h2, fun i hi => by rw [← e i hi]; exact h3 i hi⟩
theorem row_set {w : World} {g : Nat} {A : Array Value} {t : TypeId} (h : w.heap[g]? = some (.cells A t (0, 0))) (i : Nat) (x : Value) : (w.setCell ⟨g, i, none⟩ x).heap[g]? = some (.cells (A.setIfInBounds i x) t (0, 0)) := heap_setCell_same w g i A t x h
theorem Row3.set {w : World} {g n : Nat} {v : Nat → Vl} (h : Row3 w g n v) (k : Nat) (hk : k < n) (x : Vl) :
    Row3 (((w.setCell ⟨g, k * 3, none⟩ (.int .u8 x.k)).setCell ⟨g, k * 3 + 1, none⟩ (.int .u64 x.b)).setCell ⟨g, k * 3 + 2, none⟩ (.string x.s)) g n (fun i => if i = k then x else v i) := by
  obtain ⟨A, h1, h2, h3⟩ := h
  refine ⟨_, row_set (row_set (row_set h1 _ _) _ _) _ _, by simpa using h2, fun i hi => ?_⟩
  obtain ⟨a, b, c⟩ := h3 i hi
  by_cases e : i = k
  · subst e
    simp only [if_true]
    refine ⟨?_, ?_, ?_⟩ <;> simp [Array.getElem?_setIfInBounds] <;> omega
  · simp only [e, if_false]
    refine ⟨?_, ?_, ?_⟩
    · rw [← a]; simp only [Array.getElem?_setIfInBounds]; rw [if_neg (by omega), if_neg (by omega), if_neg (by omega)]
    · rw [← b]; simp only [Array.getElem?_setIfInBounds]; rw [if_neg (by omega), if_neg (by omega), if_neg (by omega)]
    · rw [← c]; simp only [Array.getElem?_setIfInBounds]; rw [if_neg (by omega), if_neg (by omega), if_neg (by omega)]
theorem Wr.below' {w w' : World} {g : Nat} {l : List Int} (h : Wr w w' g l) {B : Nat} (hB : B ≤ g) : Below B w w' := h.below hB
/-- The first numbers are there, the others are 0. -/
def prt (n k : Nat) (f : Nat → Int) : List Int := (List.range n).map fun i => if i < k then f i else 0
theorem prt_set (n k : Nat) (f : Nat → Int) (hk : k < n) : (prt n k f).set k (f k) = prt n (k + 1) f := by
  apply List.ext_getElem?
  intro i
  unfold prt
  rw [List.getElem?_set]
  by_cases e : k = i
  · subst e; simp [hk]
  · rw [if_neg e]
    by_cases hi : i < n
    · simp [hi]; by_cases h : i < k
      · simp [h, show i < k + 1 by omega]
      · simp [h, show ¬ i < k + 1 by omega]
    · simp [hi]
theorem prt_all (n : Nat) (f : Nat → Int) : prt n n f = (List.range n).map f := by
  unfold prt
  apply List.map_congr_left
  intro i hi
  rw [if_pos (List.mem_range.1 hi)]
theorem made_ints (n : Nat) : madeCells #[.int .i64 0] n = ((prt n 0 (fun _ => 0)).map (Value.int .i64)).toArray := by
  apply Array.ext_getElem?
  intro i
  by_cases hi : i < n
  · simp [madeCells, prt, hi, Nat.mod_one]
  · simp [madeCells, prt, hi]
theorem prt_0 (n : Nat) (f : Nat → Int) : prt n 0 (fun _ => 0) = prt n 0 f := by unfold prt; simp
theorem made_vals (n i : Nat) (hi : i < n) : (madeCells #[.int .u8 0, .int .u64 0, .string ⟨#[]⟩] (n * 3))[i * 3]? = some (.int .u8 0) ∧ (madeCells #[.int .u8 0, .int .u64 0, .string ⟨#[]⟩] (n * 3))[i * 3 + 1]? = some (.int .u64 0) ∧ (madeCells #[.int .u8 0, .int .u64 0, .string ⟨#[]⟩] (n * 3))[i * 3 + 2]? = some (.string ⟨#[]⟩) := by
  have a : i * 3 < n * 3 := by omega
  have b : i * 3 + 1 < n * 3 := by omega
  have c : i * 3 + 2 < n * 3 := by omega
  simp [madeCells, a, b, c, show (i * 3) % 3 = 0 by omega, show (i * 3 + 1) % 3 = 1 by omega, show (i * 3 + 2) % 3 = 2 by omega]
theorem mk_ints (n : Nat) (hn : n ≤ 100) (w : World) : (Instr.makeSlice 65 (.int .i64 n) (.int .i64 n)).run Tryd.prog w = .ok (.slice (some ⟨w.heap.size, 0, none⟩) n n) (w.alloc (.cells (madeCells #[.int .i64 0] n) 3)) := by
  obtain ⟨i, hi, hz⟩ := Option.map_eq_some_iff.1 (show (Tryd.prog.info? 3).map (fun i => (i.zero, i.size, i.bytes)) = some (some (.int .i64 0), 1, 8) by kernel_rfl)
  simp only [Prod.mk.injEq] at hz
  have hr := run_make (P := Tryd.prog) w 65 3 i (.int .i64 0) Tryd.underlying65 hi hz.1 .i64 .i64 n n (by omega) (Int.le_refl _) (by rw [hz.2.2]; omega) (by omega)
  simp only [Int.toNat_natCast, hz.2.1, Nat.mul_one] at hr
  exact hr
theorem mk_vals (n : Nat) (hn : n ≤ 100) (w : World) : (Instr.makeSlice 30 (.int .i64 n) (.int .i64 n)).run Tryd.prog w = .ok (.slice (some ⟨w.heap.size, 0, none⟩) n n) (w.alloc (.cells (madeCells #[.int .u8 0, .int .u64 0, .string ⟨#[]⟩] (n * 3)) 34)) := by
  obtain ⟨i, hi, hz⟩ := Option.map_eq_some_iff.1 (show (Tryd.prog.info? 34).map (fun i => (i.zero, i.size, i.bytes)) = some (some (.agg #[.int .u8 0, .int .u64 0, .string ⟨#[]⟩]), 3, 32) by kernel_rfl)
  simp only [Prod.mk.injEq] at hz
  have hr := run_make (P := Tryd.prog) w 30 34 i (.agg #[.int .u8 0, .int .u64 0, .string ⟨#[]⟩]) Tryd.underlying30 hi hz.1 .i64 .i64 n n (by omega) (Int.le_refl _) (by rw [hz.2.2]; omega) (by omega)
  simp only [Int.toNat_natCast, hz.2.1] at hr
  exact hr
end Go.Proofs.YtjnegbjgogkamaaDoor
