/- Variables one behind the other in memory; a variable's class; zero values; no statement of the seat is proved here. -/
import Derived.Test.YtkanhbokdjppoaaGreatDoorBlkU
import Derived.Laws.CopyOwn
import Derived.OwnWalk
import Derived.Handy
namespace Go.Proofs.YtkanhbokdjppoaaGreatDoor
set_option linter.unusedVariables false
open Go.RowKit
/-- A variable's cells. -/
def vrC (nm : ByteArray) (cl kd : Int) (ini : Value) : List Value :=
  [.string nm, .int .i64 0, .int .i64 cl, .int .u8 kd, .bool false, .int .i64 0, .int .i64 0, .int .i64 0, .bool false, .int .i64 0, .int .i64 0, .string ⟨#[]⟩, ini, .bool false, .bool false, .string ⟨#[]⟩]
/-- What a row of variables holds. -/
structure VrF where
  nm : Nat → ByteArray
  cl : Nat → Int
  kd : Nat → Int
  ini : Nat → Value
def vrL (n : Nat) (v : VrF) : List Value := (List.range n).flatMap fun i => vrC (v.nm i) (v.cl i) (v.kd i) (v.ini i)
theorem vrL_succ (n : Nat) (v : VrF) : vrL (n + 1) v = vrL n v ++ vrC (v.nm n) (v.cl n) (v.kd n) (v.ini n) := by
  unfold vrL; rw [List.range_succ, List.flatMap_append]; simp
theorem vrL_len (n : Nat) (v : VrF) : (vrL n v).length = n * 16 := by
  induction n with
  | zero => rfl
  | succ n ih => rw [vrL_succ, List.length_append, ih]; simp [vrC]; omega
theorem vrL_at (n : Nat) (v : VrF) (i j : Nat) (hi : i < n) (hj : j < 16) : (vrL n v)[i * 16 + j]? = (vrC (v.nm i) (v.cl i) (v.kd i) (v.ini i))[j]? := by
  induction n with
  | zero => omega
  | succ n ih =>
    have l := vrL_len n v
    rw [vrL_succ]
    by_cases h : i < n
    · rw [List.getElem?_append_left (by omega)]; exact ih h
    · have e : i = n := by omega
      subst e
      rw [List.getElem?_append_right (by omega), l, Nat.add_sub_cancel_left]
theorem vrL_congr (n : Nat) (v u : VrF) (h : ∀ i, i < n → v.nm i = u.nm i ∧ v.cl i = u.cl i ∧ v.kd i = u.kd i ∧ v.ini i = u.ini i) : vrL n v = vrL n u := by
  induction n with
  | zero => rfl
  | succ n ih =>
    rw [vrL_succ, vrL_succ, ih (fun i hi => h i (by omega))]
    obtain ⟨a, b, c, d⟩ := h n (by omega)
    rw [a, b, c, d]
/-- Variables one behind the other in memory. -/
def VrAt (w : World) (g n : Nat) (v : VrF) : Prop := ∀ i, i < n → ∀ j, j < 16 → w.cell? ⟨g, i * 16 + j, none⟩ = (vrC (v.nm i) (v.cl i) (v.kd i) (v.ini i))[j]?
theorem VrAt.below {w w' : World} {g n : Nat} {v : VrF} (h : VrAt w g n v) (hb : Below w.heap.size w w') : VrAt w' g n v := by
  intro i hi j hj
  have z : g < w.heap.size := block_lt_of_cell (a := ⟨g, i * 16 + 0, none⟩) (h i hi 0 (by omega))
  rw [hb.cell (p := ⟨g, i * 16 + j, none⟩) z]; exact h i hi j hj
theorem ownsRow_below {w w' : World} {base : Nat} {e : TypeId} {size : Nat} {x : Value} {n : Nat} {xs : List Value} (h : w.ownsRow base e size x n xs) (hb : Below w.heap.size w w') : w'.ownsRow base e size x n xs := by
  obtain ⟨h1, h2⟩ := h
  refine ⟨h1, ?_⟩
  rcases h2 with h2 | ⟨g, cap, cur, hv, hg, hh, r⟩
  · exact .inl h2
  · exact .inr ⟨g, cap, cur, hv, hg, by rw [hb.block g (lt_of_block hh)]; exact hh, r⟩
/-- What a slice of variables that this call made holds. -/
theorem own_vars {w : World} {base n : Nat} {x : Value} {v : VrF} {e : TypeId} (h : w.ownsRow base e 16 x n (vrL n v)) (hn : 0 < n) : ∃ g cap, x = .slice (some ⟨g, 0, none⟩) n cap ∧ base ≤ g ∧ VrAt w g n v := by
  obtain ⟨h1, h2⟩ := h
  rcases h2 with ⟨_, e⟩ | ⟨g, cap, cur, e, hb, hg, hc, hm, hs, ht⟩
  · omega
  · refine ⟨g, cap, e, hb, fun i hi j hj => ?_⟩
    have f := vrL_at n v i j hi hj
    rw [← ht, List.getElem?_take_of_lt (by omega)] at f
    simp only [World.cell?, hg]
    simpa using f
theorem vrC_one (nm : ByteArray) (cl kd : Int) (ini : Value) (h : ini.oneCell' = true) : ∀ u ∈ vrC nm cl kd ini, u.oneCell' = true := by
  intro u hu
  unfold vrC at hu
  simp at hu
  rcases hu with rfl | rfl | rfl | rfl | rfl | rfl | rfl | rfl | rfl | rfl | rfl | rfl | rfl | rfl | rfl | rfl <;> first | rfl | exact h
/-- The cells of a block that was made last. -/
theorem last_src (w : World) (l : List Value) (t : TypeId) : ∀ j u, l[j]? = some u → (w.alloc (.cells l.toArray t)).cell? ((⟨w.heap.size, 0, none⟩ : Addr).add j) = some u := by
  intro j u hu
  have e : (⟨w.heap.size, 0, none⟩ : Addr).add j = ⟨w.heap.size, j, none⟩ := by unfold Addr.add; split <;> simp_all
  rw [e]
  have h := heap_alloc_last w (.cells l.toArray t)
  simp only [World.cell?, h]
  simpa using hu
/-- The class of a block's variable of a number. -/
def clsN (ins outs : Int) (i : Nat) : Int := if (i : Int) < ins then 1 else if (i : Int) < ins + outs then 2 else 4
end Go.Proofs.YtkanhbokdjppoaaGreatDoor
