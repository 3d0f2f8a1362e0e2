/- Two calls whose answers go into two boxes, in whatever order the boxes are made; no statement of the seat is proved here. -/
import Derived.Test.YtcoeinfopfcekaaRwA
import Derived.Test.YtcoeinfopfcekaaRgJ
namespace Go.Proofs.Ytcoeinfopfcekaa
set_option linter.unusedVariables false
open Go.RowKit
/-- What is told of an answer is kept where the blocks of S are. -/
structure KeptV (P : (Nat → Prop) → World → Value → Prop) : Prop where
  fr : ∀ {S : Nat → Prop} {w w' : World} {v : Value}, P S w v → FrS S w w' → P S w' v
  sub : ∀ {S T : Nat → Prop} {w : World} {v : Value}, (∀ b, S b → T b) → P S w v → P T w v
/-- How far the two calls and the two boxes are. -/
structure Tw (w : World) (G : Nat) (A B Z : Obj) (P1 P2 : (Nat → Prop) → World → Value → Prop) (r1 r2 : Option Value) (g4 g5 : Option Nat) (c : World) : Prop where
  hx : c.heap[G]? = some A
  hy : c.heap[G + 1]? = some B
  hb : Below G w c
  h4 : ∀ g, g4 = some g → G + 2 ≤ g ∧ c.heap[g]? = some Z
  h5 : ∀ g, g5 = some g → G + 2 ≤ g ∧ c.heap[g]? = some Z
  hn : ∀ g, g4 = some g → g5 ≠ some g
  h1 : ∀ v, r1 = some v → P1 (fun b => (G + 2 ≤ b ∧ b < c.heap.size) ∧ g4 ≠ some b ∧ g5 ≠ some b) c v
  h2 : ∀ v, r2 = some v → P2 (fun b => (G + 2 ≤ b ∧ b < c.heap.size) ∧ g4 ≠ some b ∧ g5 ≠ some b) c v
theorem blk_lt {c : World} {g : Nat} {o : Obj} (h : c.heap[g]? = some o) : g < c.heap.size := (Array.getElem?_eq_some_iff.1 h).1
section
variable {w c c' : World} {G : Nat} {A B Z : Obj} {P1 P2 : (Nat → Prop) → World → Value → Prop} {r1 r2 : Option Value} {g4 g5 : Option Nat} {v : Value}
theorem Tw.size (t : Tw w G A B Z P1 P2 r1 r2 g4 g5 c) : G + 2 ≤ c.heap.size := blk_lt t.hy
theorem Tw.move (K1 : KeptV P1) (K2 : KeptV P2) (t : Tw w G A B Z P1 P2 r1 r2 g4 g5 c) (b : Below c.heap.size c c') : Tw w G A B Z P1 P2 r1 r2 g4 g5 c' where
  hx := (b.block _ (blk_lt t.hx)).trans t.hx
  hy := (b.block _ (blk_lt t.hy)).trans t.hy
  hb := t.hb.trans (b.mono (by have := t.size; omega))
  h4 := fun g e => ⟨(t.h4 g e).1, (b.block _ (blk_lt (t.h4 g e).2)).trans (t.h4 g e).2⟩
  h5 := fun g e => ⟨(t.h5 g e).1, (b.block _ (blk_lt (t.h5 g e).2)).trans (t.h5 g e).2⟩
  hn := t.hn
  h1 := fun v e => K1.sub (fun k h => ⟨⟨h.1.1, Nat.lt_of_lt_of_le h.1.2 b.size⟩, h.2⟩) (K1.fr (t.h1 v e) fun q hq => b.cell hq.1.2)
  h2 := fun v e => K2.sub (fun k h => ⟨⟨h.1.1, Nat.lt_of_lt_of_le h.1.2 b.size⟩, h.2⟩) (K2.fr (t.h2 v e) fun q hq => b.cell hq.1.2)
theorem Tw.call1 (K1 : KeptV P1) (K2 : KeptV P2) (t : Tw w G A B Z P1 P2 none r2 g4 g5 c) (b : Below c.heap.size c c') (hv : P1 (Fresh c.heap.size c'.heap.size) c' v) : Tw w G A B Z P1 P2 (some v) r2 g4 g5 c' :=
  { t.move K1 K2 b with
    h1 := fun u e => by
      cases e
      have s := t.size
      exact K1.sub (fun k h => ⟨⟨by have := h.1; omega, h.2⟩, fun q => by have := blk_lt (t.h4 k q).2; have := h.1; omega, fun q => by have := blk_lt (t.h5 k q).2; have := h.1; omega⟩) hv }
theorem Tw.call2 (K1 : KeptV P1) (K2 : KeptV P2) (t : Tw w G A B Z P1 P2 r1 none g4 g5 c) (b : Below c.heap.size c c') (hv : P2 (Fresh c.heap.size c'.heap.size) c' v) : Tw w G A B Z P1 P2 r1 (some v) g4 g5 c' :=
  { t.move K1 K2 b with
    h2 := fun u e => by
      cases e
      have s := t.size
      exact K2.sub (fun k h => ⟨⟨by have := h.1; omega, h.2⟩, fun q => by have := blk_lt (t.h4 k q).2; have := h.1; omega, fun q => by have := blk_lt (t.h5 k q).2; have := h.1; omega⟩) hv }
theorem Tw.al4 (K1 : KeptV P1) (K2 : KeptV P2) (t : Tw w G A B Z P1 P2 r1 r2 none g5 c) : Tw w G A B Z P1 P2 r1 r2 (some c.heap.size) g5 (c.alloc Z) := by
  have b : Below c.heap.size c (c.alloc Z) := (Below.refl _ _).alloc (Nat.le_refl _) _
  have s := t.size
  have m := t.move K1 K2 b
  exact { m with
    h4 := fun g e => by cases e; exact ⟨s, heap_alloc_last _ _⟩
    hn := fun g e q => by cases e; have := blk_lt (t.h5 _ q).2; omega
    h1 := fun v e => K1.sub (fun k h => ⟨⟨h.1.1, Nat.lt_of_lt_of_le h.1.2 b.size⟩, fun q => by cases q; exact absurd h.1.2 (Nat.lt_irrefl _), h.2.2⟩) (K1.fr (t.h1 v e) fun q hq => b.cell hq.1.2)
    h2 := fun v e => K2.sub (fun k h => ⟨⟨h.1.1, Nat.lt_of_lt_of_le h.1.2 b.size⟩, fun q => by cases q; exact absurd h.1.2 (Nat.lt_irrefl _), h.2.2⟩) (K2.fr (t.h2 v e) fun q hq => b.cell hq.1.2) }
theorem Tw.al5 (K1 : KeptV P1) (K2 : KeptV P2) (t : Tw w G A B Z P1 P2 r1 r2 g4 none c) : Tw w G A B Z P1 P2 r1 r2 g4 (some c.heap.size) (c.alloc Z) := by
  have b : Below c.heap.size c (c.alloc Z) := (Below.refl _ _).alloc (Nat.le_refl _) _
  have s := t.size
  have m := t.move K1 K2 b
  exact { m with
    h5 := fun g e => by cases e; exact ⟨s, heap_alloc_last _ _⟩
    hn := fun g e q => by cases q; have := blk_lt (t.h4 _ e).2; omega
    h1 := fun v e => K1.sub (fun k h => ⟨⟨h.1.1, Nat.lt_of_lt_of_le h.1.2 b.size⟩, h.2.1, fun q => by cases q; exact absurd h.1.2 (Nat.lt_irrefl _)⟩) (K1.fr (t.h1 v e) fun q hq => b.cell hq.1.2)
    h2 := fun v e => K2.sub (fun k h => ⟨⟨h.1.1, Nat.lt_of_lt_of_le h.1.2 b.size⟩, h.2.1, fun q => by cases q; exact absurd h.1.2 (Nat.lt_irrefl _)⟩) (K2.fr (t.h2 v e) fun q hq => b.cell hq.1.2) }
/-- Both boxes are written. -/
structure Td (w : World) (G : Nat) (A B : Obj) (P1 P2 : (Nat → Prop) → World → Value → Prop) (v1 v2 : Value) (g4 g5 : Nat) (o1 o2 : Obj) (c : World) : Prop where
  hx : c.heap[G]? = some A
  hy : c.heap[G + 1]? = some B
  hb : Below G w c
  h4 : c.heap[g4]? = some o1
  h5 : c.heap[g5]? = some o2
  l4 : G + 2 ≤ g4
  l5 : G + 2 ≤ g5
  hn : g4 ≠ g5
  h1 : P1 (fun b => b < c.heap.size) c v1
  h2 : P2 (fun b => b < c.heap.size) c v2
theorem Tw.done (K1 : KeptV P1) (K2 : KeptV P2) {v1 v2 : Value} {g h : Nat} {z cs1 cs2 : Array Value} {T : TypeId} (t : Tw w G A B (.cells z T (0, 0)) P1 P2 (some v1) (some v2) (some g) (some h) c) :
    (c.setRow g cs1).heap[h]? = some (.cells z T (0, 0)) ∧ Td w G A B P1 P2 v1 v2 g h (.cells cs1 T (0, 0)) (.cells cs2 T (0, 0)) ((c.setRow g cs1).setRow h cs2) := by
  have ne : g ≠ h := fun e => t.hn g rfl (by rw [e])
  obtain ⟨l4, q4⟩ := t.h4 g rfl
  obtain ⟨l5, q5⟩ := t.h5 h rfl
  have e5 : (c.setRow g cs1).heap[h]? = some (.cells z T (0, 0)) := (setRow_other _ _ _ _ (Ne.symm ne)).trans q5
  have ot : ∀ k, k ≠ g → k ≠ h → ((c.setRow g cs1).setRow h cs2).heap[k]? = c.heap[k]? := fun k a b => (setRow_other _ _ _ _ b).trans (setRow_other _ _ _ _ a)
  have sz : ((c.setRow g cs1).setRow h cs2).heap.size = c.heap.size := by simp [World.setRow]
  have fr : FrS (fun b => (G + 2 ≤ b ∧ b < c.heap.size) ∧ some g ≠ some b ∧ some h ≠ some b) c ((c.setRow g cs1).setRow h cs2) := fun q hq => World.cell?_of_block (ot _ (fun e => hq.2.1 (by rw [e])) (fun e => hq.2.2 (by rw [e])))
  refine ⟨e5, (ot _ (by omega) (by omega)).trans t.hx, (ot _ (by omega) (by omega)).trans t.hy, t.hb.trans ⟨rfl, rfl, rfl, by rw [sz]; exact Nat.le_refl _, fun k hk => ot k (by omega) (by omega)⟩, (setRow_other _ _ _ _ ne).trans (setRow_heap _ _ _ _ _ _ q4), setRow_heap _ _ _ _ _ _ e5, l4, l5, ne, K1.sub (fun b h => by rw [sz]; exact h.1.2) (K1.fr (t.h1 v1 rfl) fr), K2.sub (fun b h => by rw [sz]; exact h.1.2) (K2.fr (t.h2 v2 rfl) fr)⟩
end
end Go.Proofs.Ytcoeinfopfcekaa
