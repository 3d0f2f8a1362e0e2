/- A block of whole numbers that a call has made, and what a step of a flip-flop or an edge does to it; no statement of the seat is proved here. -/
import Derived.Test.YtjnegbjgogkamaaDoorBase
import Derived.Below
namespace Go.Proofs.YtjnegbjgogkamaaDoor
set_option linter.unusedVariables false
open Go.RowKit
/-- Block g holds these numbers, and may be written. -/
def NBk (w : World) (g : Nat) (l : List Int) : Prop := w.heap[g]? = some (.cells (l.map (Value.int .i64)).toArray 3 (0, 0))
theorem NBk.cell {w : World} {g : Nat} {l : List Int} (h : NBk w g l) (i : Nat) (x : Int) (hx : l[i]? = some x) : w.cell? ⟨g, i, none⟩ = some (.int .i64 x) := by
  unfold NBk at h; simp [World.cell?, h, hx]
theorem NBk.free {w : World} {g : Nat} {l : List Int} (h : NBk w g l) (i : Nat) : w.frozen? ⟨g, i, none⟩ = false := by
  unfold NBk at h; simp [World.frozen?, h]
theorem NBk.lt {w : World} {g : Nat} {l : List Int} (h : NBk w g l) : g < w.heap.size := lt_of_block h
theorem NBk.set {w : World} {g : Nat} {l : List Int} (h : NBk w g l) (i : Nat) (x : Int) : NBk (w.setCell ⟨g, i, none⟩ (.int .i64 x)) g (l.set i x) := by
  have hlt := h.lt
  unfold NBk at h ⊢
  have h' : w.heap[g] = .cells (l.map (Value.int .i64)).toArray 3 (0, 0) := by simpa [Array.getElem?_eq_getElem hlt] using h
  show (w.heap.modify g _)[g]? = _
  rw [Array.getElem?_eq_getElem (by simpa using hlt), Array.getElem_modify_self, h']
  simp [List.map_set]
/-- The world behind is the one ahead, but that block g holds other numbers. -/
structure Wr (w w' : World) (g : Nat) (l : List Int) : Prop where
  nb : NBk w' g l
  os : w'.os = w.os
  tape : w'.tape = w.tape
  output : w'.output = w.output
  size : w'.heap.size = w.heap.size
  other : ∀ k, k ≠ g → w'.heap[k]? = w.heap[k]?
theorem Wr.refl {w : World} {g : Nat} {l : List Int} (h : NBk w g l) : Wr w w g l := ⟨h, rfl, rfl, rfl, rfl, fun _ _ => rfl⟩
theorem Wr.drew {w w' : World} {g : Nat} {l : List Int} (h : Wr w w' g l) : Wr w w'.drew g l := ⟨h.nb, h.os, h.tape, h.output, h.size, h.other⟩
theorem Wr.drewN {w w' : World} {g : Nat} {l : List Int} (h : Wr w w' g l) (n : Nat) : Wr w (w'.drewN n) g l := by
  obtain ⟨a, b, c, d, e, f⟩ := h
  exact ⟨a, b, c, d, e, f⟩
theorem Wr.set {w w' : World} {g : Nat} {l : List Int} (h : Wr w w' g l) (i : Nat) (x : Int) : Wr w (w'.setCell ⟨g, i, none⟩ (.int .i64 x)) g (l.set i x) :=
  ⟨h.nb.set i x, h.os, h.tape, h.output, by rw [← h.size]; simp [World.setCell], fun k hk => by rw [Below.heap_setCell _ _ _ _ hk]; exact h.other k hk⟩
theorem Wr.below {w w' : World} {g : Nat} {l : List Int} (h : Wr w w' g l) {B : Nat} (hB : B ≤ g) : Below B w w' :=
  ⟨h.os, h.tape, h.output, Nat.le_of_eq h.size.symm, fun k hk => h.other k (by omega)⟩
theorem Wr.to {w w' : World} {g : Nat} {l m : List Int} (h : Wr w w' g l) (e : l = m) : Wr w w' g m := e ▸ h
/-- A BOOL's number. -/
abbrev B01 (x : Int) : Prop := x = 0 ∨ x = 1
/-- A row of numbers in memory, as a slice. -/
abbrev NS (g n : Nat) : Value := .slice (some ⟨g, 0, none⟩) n n
/-- How long ago a timer began. -/
def sinc (now s : Int) : Int := if 0 ≤ s ∧ s ≤ now then now - s else 0
/-- A span, at least nothing. -/
def spn (pt : Int) : Int := if pt < 0 then 0 else pt
/-- The lesser of how long ago it began and its span. -/
def els (now s pt : Int) : Int := if spn pt ≤ sinc now s then spn pt else sinc now s
/-- A count up. -/
def cUp (cv : Int) : Int := if cv < 32767 then cv + 1 else cv
/-- A count down. -/
def cDn (cv : Int) : Int := if -32768 < cv then cv - 1 else cv
/-- A BOOL's number. -/
def tN (p : Bool) : Int := if p then 1 else 0
/-- CTU's count. -/
def vU (cu r cv m : Int) : Int := if r = 1 then 0 else if cu = 1 ∧ m = 0 then cUp cv else cv
/-- CTD's count. -/
def vD (cd ld pv cv m : Int) : Int := if ld = 1 then pv else if cd = 1 ∧ m = 0 then cDn cv else cv
/-- CTUD's count. -/
def vB (cu cd r ld pv cv m n : Int) : Int :=
  if r = 1 then 0 else if ld = 1 then pv else if (cu = 1 ∧ m = 0) ∧ ¬ (cd = 1 ∧ n = 0) then cUp cv else if (cd = 1 ∧ n = 0) ∧ ¬ (cu = 1 ∧ m = 0) then cDn cv else cv
/-- TP behind its first half: Q and ET. -/
def pQ (now pt q s : Int) : Int := if q = 1 then tN (!decide (spn pt ≤ sinc now s)) else q
def pE (now pt q et s : Int) : Int := if q = 1 then els now s pt else et
/-- The numbers of a block's variables behind a step, by those ahead of it. -/
def nxt (k : Int) (now : Int) : List Int → List Int
  | [a, b, q] =>
    if k = 1 then [a, b, tN (decide (a = 1 ∨ q = 1 ∧ b = 0))]
    else if k = 2 then [a, b, tN (decide (b = 0 ∧ (a = 1 ∨ q = 1)))]
    else if k = 3 then [a, tN (decide (a = 1 ∧ q = 0)), a]
    else [a, tN (decide (q = 1 ∧ a = 0)), a]
  | [a, b, c, d, e, f] =>
    if k = 5 then [a, b, c, tN (decide (c ≤ vU a b e f)), vU a b e f, a]
    else if k = 6 then [a, b, c, tN (decide (vD a b c e f ≤ 0)), vD a b c e f, a]
    else if k = 8 then
      (if pQ now b c f = 0 ∧ a = 1 ∧ e = 0 then [a, b, tN (decide (0 < b)), 0, a, now]
       else if pQ now b c f = 0 ∧ a = 0 then [a, b, pQ now b c f, 0, a, f]
       else [a, b, pQ now b c f, pE now b c d f, a, f])
    else if k = 9 then
      (if a = 0 then [a, b, 0, 0, a, f]
       else if e = 0 then [a, b, tN (decide (spn b ≤ sinc now now)), els now now b, a, now]
       else [a, b, tN (decide (spn b ≤ sinc now f)), els now f b, a, f])
    else
      (if a = 1 then [a, b, 1, 0, a, f]
       else if e = 1 then (if c = 1 then [a, b, tN (!decide (spn b ≤ sinc now now)), els now now b, a, now] else [a, b, c, d, a, now])
       else (if c = 1 then [a, b, tN (!decide (spn b ≤ sinc now f)), els now f b, a, f] else [a, b, c, d, a, f]))
  | [cu, cd, r, ld, pv, qu, qd, cv, m, n] =>
    [cu, cd, r, ld, pv, tN (decide (pv ≤ vB cu cd r ld pv cv m n)), tN (decide (vB cu cd r ld pv cv m n ≤ 0)), vB cu cd r ld pv cv m n, cu, cd]
  | l => l
set_option maxHeartbeats 1000000 in
theorem setFirst_of (now s r q : Int) (g : Nat) (w : World) (hs : B01 s) (hr : B01 r) (hq : B01 q) (h : NBk w g [s, r, q]) :
    Calls Tryd.prog 40 #[.int .i64 now, NS g 3] w fun e w' => e = .returned (.tuple #[]) ∧ Wr w w' g (nxt 1 now [s, r, q]) := by
  have H := Wr.refl h
  have c0 := h.cell 0 s rfl
  have c1 := h.cell 1 r rfl
  have c2 := h.cell 2 q rfl
  have f2 := h.free 2
  clear h
  rcases hs with rfl | rfl <;> rcases hr with rfl | rfl <;> rcases hq with rfl | rfl
  all_goals
    go_enter Tryd.func40, Tryd.ntmps40
    go_region
    go_end0
    exact ⟨rfl, ((H.set 2 _).drew).to (by rfl)⟩
set_option maxHeartbeats 1000000 in
theorem resetFirst_of (now s r q : Int) (g : Nat) (w : World) (hs : B01 s) (hr : B01 r) (hq : B01 q) (h : NBk w g [s, r, q]) :
    Calls Tryd.prog 41 #[.int .i64 now, NS g 3] w fun e w' => e = .returned (.tuple #[]) ∧ Wr w w' g (nxt 2 now [s, r, q]) := by
  have H := Wr.refl h
  have c0 := h.cell 0 s rfl
  have c1 := h.cell 1 r rfl
  have c2 := h.cell 2 q rfl
  have f2 := h.free 2
  clear h
  rcases hs with rfl | rfl <;> rcases hr with rfl | rfl <;> rcases hq with rfl | rfl
  all_goals
    go_enter Tryd.func41, Tryd.ntmps41
    go_region
    go_end0
    exact ⟨rfl, ((H.set 2 _).drew).to (by rfl)⟩
set_option maxHeartbeats 1000000 in
theorem rise_of (now s r q : Int) (g : Nat) (w : World) (hs : B01 s) (hr : B01 r) (hq : B01 q) (h : NBk w g [s, r, q]) :
    Calls Tryd.prog 42 #[.int .i64 now, NS g 3] w fun e w' => e = .returned (.tuple #[]) ∧ Wr w w' g (nxt 3 now [s, r, q]) := by
  have H := Wr.refl h
  have c0 := h.cell 0 s rfl
  have c1 := h.cell 1 r rfl
  have c2 := h.cell 2 q rfl
  have f1 := h.free 1
  have f2 := h.free 2
  clear h
  rcases hs with rfl | rfl <;> rcases hr with rfl | rfl <;> rcases hq with rfl | rfl
  all_goals
    go_enter Tryd.func42, Tryd.ntmps42
    go_wp2
    go_region
    go_wp2
    go_end0
    exact ⟨rfl, (((H.set 1 _).drew).set 2 _).to (by rfl)⟩
set_option maxHeartbeats 1000000 in
theorem fall_of (now s r q : Int) (g : Nat) (w : World) (hs : B01 s) (hr : B01 r) (hq : B01 q) (h : NBk w g [s, r, q]) :
    Calls Tryd.prog 43 #[.int .i64 now, NS g 3] w fun e w' => e = .returned (.tuple #[]) ∧ Wr w w' g (nxt 4 now [s, r, q]) := by
  have H := Wr.refl h
  have c0 := h.cell 0 s rfl
  have c1 := h.cell 1 r rfl
  have c2 := h.cell 2 q rfl
  have f1 := h.free 1
  have f2 := h.free 2
  clear h
  rcases hs with rfl | rfl <;> rcases hr with rfl | rfl <;> rcases hq with rfl | rfl
  all_goals
    go_enter Tryd.func43, Tryd.ntmps43
    go_wp2
    go_region
    go_wp2
    go_end0
    exact ⟨rfl, (((H.set 1 _).drew).set 2 _).to (by rfl)⟩
end Go.Proofs.YtjnegbjgogkamaaDoor
