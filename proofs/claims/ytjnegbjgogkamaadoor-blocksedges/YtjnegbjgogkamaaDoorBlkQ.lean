/- A list of truth values in memory, and one more ahead of them; steps of the counters; no statement of the seat is proved here. -/
import Derived.Test.YtjnegbjgogkamaaDoorBlkN
import Derived.Test.YtjnegbjgogkamaaDoorBlkO
namespace Go.Proofs.YtjnegbjgogkamaaDoor
set_option linter.unusedVariables false
open Go.RowKit
def boL (n : Nat) (f : Nat → Bool) : List Value := (List.range n).map fun i => .bool (f i)
theorem boL_len (n : Nat) (f : Nat → Bool) : (boL n f).length = n := by simp [boL]
theorem boL_at (n : Nat) (f : Nat → Bool) (i : Nat) (hi : i < n) : (boL n f)[i]? = some (.bool (f i)) := by simp [boL, hi]
theorem boL_one (n : Nat) (f : Nat → Bool) : ∀ u ∈ boL n f, u.oneCell' = true := by
  intro u hu
  unfold boL at hu
  obtain ⟨i, _, rfl⟩ := List.mem_map.1 hu
  rfl
/-- One truth value ahead of the others. -/
def boC (f : Nat → Bool) (i : Nat) : Bool := if i = 0 then true else f (i - 1)
theorem boL_cons (n : Nat) (f : Nat → Bool) : [.bool true] ++ boL n f = boL (n + 1) (boC f) := by
  unfold boL
  rw [List.range_succ_eq_map, List.map_cons, List.map_map]
  rfl
/-- Truth values in memory. -/
def BoAt (w : World) (ad : Option Addr) (n : Nat) (f : Nat → Bool) : Prop := ∀ a, ad = some a → ∀ i, i < n → w.cell? (a.add i) = some (.bool (f i))
theorem BoAt.below {w w' : World} {ad : Option Addr} {n : Nat} {f : Nat → Bool} (h : BoAt w ad n f) (hb : Below w.heap.size w w') : BoAt w' ad n f := by
  intro a e i hi
  have c := h a e i hi
  rw [hb.cell (block_lt_of_cell c)]; exact c
theorem BoAt.src {w : World} {ad : Option Addr} {n : Nat} {f : Nat → Bool} (h : BoAt w ad n f) : ∀ a, ad = some a → ∀ j u, (boL n f)[j]? = some u → w.cell? (a.add j) = some u := by
  intro a e j u hu
  have hj : j < n := by
    rcases Nat.lt_or_ge j n with g | g
    · exact g
    · rw [List.getElem?_eq_none (by rw [boL_len]; exact g)] at hu; cases hu
  rw [boL_at n f j hj] at hu; cases hu
  exact h a e j hj
/-- Truth values in a row that the call made. -/
def BRow (w : World) (g n : Nat) (f : Nat → Bool) : Prop := ∀ i, i < n → w.cell? ⟨g, i, none⟩ = some (.bool (f i))
theorem BRow.below {w w' : World} {g n : Nat} {f : Nat → Bool} (h : BRow w g n f) (hb : Below w.heap.size w w') : BRow w' g n f := by
  intro i hi
  have a := h i hi
  exact (hb.cell (p := ⟨g, i, none⟩) (block_lt_of_cell (a := ⟨g, i, none⟩) a)).trans a
theorem own_bools {w : World} {base n : Nat} {x : Value} {f : Nat → Bool} {e : TypeId} (h : w.ownsRow base e 1 x n (boL n f)) (hn : 0 < n) : ∃ g cap, x = .slice (some ⟨g, 0, none⟩) n cap ∧ base ≤ g ∧ BRow w g n f := by
  obtain ⟨h1, h2⟩ := h
  rcases h2 with ⟨_, e⟩ | ⟨g, cap, cur, e, hb, hg, hc, hm, hs, ht⟩
  · omega
  · refine ⟨g, cap, e, hb, fun i hi => ?_⟩
    have a := boL_at n f i hi
    rw [← ht, List.getElem?_take_of_lt (by omega)] at a
    simp only [World.cell?, hg]
    simpa using a
theorem own_bool1 (w : World) (e : TypeId) : (w.alloc (.cells #[.bool true] e)).ownsRow w.heap.size e 1 (.slice (some ⟨w.heap.size, 0, none⟩) 1 1) 1 [.bool true] :=
  ⟨rfl, .inr ⟨w.heap.size, 1, _, rfl, Nat.le_refl _, heap_alloc_last w _, Nat.le_refl _, by decide, rfl, rfl⟩⟩
/-- A step of a counter up or down. -/
theorem stepC (K now : Int) (a b : Addr) (cap capm : Nat) (x0 x1 x2 l0 l1 l2 l3 l4 l5 : Int) (w : World) (hS : StOk K ksC.size ksC now) (hv : VsAt w a 6 (vlL ksC [l0, l1, l2, l3, l4, l5])) (hu : VsAt w b 3 (vlL ksC [x0, x1, x2]))
    (hL : okL ksC [l0, l1, l2, l3, l4, l5]) (h0 : B01 x0) (h1 : B01 x1) (h2 : -32768 ≤ x2 ∧ x2 ≤ 32767) :
    Calls Tryd.prog 22 #[.int .i64 K, .slice (some a) 6 cap, .int .i64 now, .slice (some b) 3 capm] w fun e w' => ∃ g, e = .returned (NS g 6) ∧ w.heap.size ≤ g ∧ Row3 w' g 6 (vlL ksC (nxt K (clN now) [x0, x1, x2, l3, l4, l5])) ∧ Below w.heap.size w w' :=
  stepL K 3 ksC now a b cap capm _ _ w hS hv hu hL rfl (fun i hi => by
    match i, hi with
    | 0, _ => exact okN1 h0
    | 1, _ => exact okN1 h1
    | 2, _ => exact okN3 h2) (by decide) (by decide) (by decide)
theorem i16_ex (x : Int) : ∃ q, wrap64 (IntKind.i16.wrap x) = q ∧ -32768 ≤ q ∧ q ≤ 32767 := by
  refine ⟨_, rfl, ?_⟩
  have e : IntKind.i16.wrap x = (x + 32768) % 65536 - 32768 := by
    simp [IntKind.wrap, IntKind.signed, IntKind.bits]; split <;> omega
  rw [e]; unfold wrap64; omega
/-- How often an input has risen. -/
def ctN (n : Int) (p rs was : Bool) : Int := if rs = true then 0 else if p = true ∧ was = false ∧ n < 32767 then n + 1 else n
theorem ct_next (n pv q : Int) (p rs was : Bool) : nxt 5 0 [tN p, tN rs, pv, q, n, tN was] = [tN p, tN rs, pv, tN (decide (pv ≤ ctN n p rs was)), ctN n p rs was, tN p] := by
  have e : vU (tN p) (tN rs) n (tN was) = ctN n p rs was := by
    unfold vU ctN cUp
    cases p <;> cases rs <;> cases was <;> simp [tN]
  have e5 : nxt 5 0 [tN p, tN rs, pv, q, n, tN was] = [tN p, tN rs, pv, tN (decide (pv ≤ vU (tN p) (tN rs) n (tN was))), vU (tN p) (tN rs) n (tN was), tN p] := rfl
  rw [e5, e]
theorem ct_rg {n : Int} (h : 0 ≤ n ∧ n ≤ 32767) (p rs was : Bool) : 0 ≤ ctN n p rs was ∧ ctN n p rs was ≤ 32767 := by
  unfold ctN; split
  · omega
  split
  · omega
  · omega
end Go.Proofs.YtjnegbjgogkamaaDoor
