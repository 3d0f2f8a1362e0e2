/- How an instruction reads as an argument, and rows of whole numbers that a call has made; no statement of the seat is proved here. -/
import Derived.Test.YtmbbabadlblopaaRows
import Derived.WalkKit
import Derived.WalkSpells
import Derived.WalkLawsBesides
import Derived.ProofKit
import Derived.OpenShut
import Derived.Lib.SmallJoins
import Derived.Deep.Fields
import Derived.Below
import Derived.Deep.WholeRow
import Derived.Test.YtmbbabadlblopaaSubG
namespace Go.Proofs.Ytmbbabadlblopaa
set_option linter.unusedVariables false
open Go.RowKit Go.ChangeShapes Go.WideShapes Go.ChangeAt Go.Joins Go.Deep
/-- An instruction: its code and four numbers, and what stands behind them. -/
abbrev Iq (c a b x d : Int) (c5 c6 c7 c8 c9 : Value) : Value := .agg #[.int .i64 c, .int .i64 a, .int .i64 b, .int .i64 x, .int .i64 d, c5, c6, c7, c8, c9]
theorem array10 {α : Type} {cs : Array α} (h : cs.size = 10) : ∃ c0 c1 c2 c3 c4 c5 c6 c7 c8 c9, cs = #[c0, c1, c2, c3, c4, c5, c6, c7, c8, c9] := by
  obtain ⟨l⟩ := cs
  match l, h with
  | [c0, c1, c2, c3, c4, c5, c6, c7, c8, c9], _ => exact ⟨c0, c1, c2, c3, c4, c5, c6, c7, c8, c9, rfl⟩
theorem cellsO : Try.prog.cellsOf 27 = 10 := by kernel_rfl
theorem cellsI : Try.prog.cellsOf 3 = 1 := by kernel_rfl
theorem underO : Try.prog.underlying 27 = some (.struct (Try.prog.fieldsOf 27)) := by kernel_rfl
theorem typesO : (((Try.prog.fieldsOf 27).map (fun f => (f.type, f.offset))).toList.take 5) = [(3, 0), (3, 1), (3, 2), (3, 3), (3, 4)] := by kernel_rfl
theorem fieldO (i : Nat) (hi : i < 5) : ∃ f, (Try.prog.fieldsOf 27)[i]? = some f ∧ f.type = 3 ∧ f.offset = i := by
  have e : (((Try.prog.fieldsOf 27).map (fun f => (f.type, f.offset))).toList.take 5)[i]? = some (3, i) := by
    rw [typesO]
    match i, hi with
    | 0, _ => rfl
    | 1, _ => rfl
    | 2, _ => rfl
    | 3, _ => rfl
    | 4, _ => rfl
  rw [List.getElem?_take_of_lt hi] at e
  simp only [Array.toList_map, List.getElem?_map, Option.map_eq_some_iff, Array.getElem?_toList, Prod.mk.injEq] at e
  exact e
theorem open_O {H : Type} {enc : TypeId × Value → H} {w : World} {base b0 : Nat} {spare : Nat → Bool} {held : Bool} {r : Reach} {v : Value} {d : DataW H} {p : List MemPlace}
    (hv : Value.okWide Try.prog w r b0 27 v) (h : DataW.Trod enc Try.prog w base spare held 27 v d p) :
    ∃ c a b x d c5 c6 c7 c8 c9, v = Iq c a b x d c5 c6 c7 c8 c9 := by
  obtain ⟨cs, rfl, hsz⟩ := okWide_struct underO hv
  obtain ⟨c0, c1, c2, c3, c4, c5, c6, c7, c8, c9, rfl⟩ := array10 (hsz.trans cellsO)
  obtain ⟨fuel, hf⟩ := h
  obtain ⟨xs, n, _, _, hl, hlen, hx⟩ := DataW.trod_struct underO hf
  have key : ∀ (i : Nat) (c : Value), i < 5 → [c0, c1, c2, c3, c4, c5, c6, c7, c8, c9][i]? = some c → ∃ z, c = .int .i64 z := by
    intro i c hi hc
    obtain ⟨f, h1, h2, h3⟩ := fieldO i hi
    have := hx i f h1
    rw [h2, h3, cellsI] at this
    have e : (([c0, c1, c2, c3, c4, c5, c6, c7, c8, c9] : List Value).drop i).take 1 = [c] := by
      obtain ⟨hi, rfl⟩ := List.getElem?_eq_some_iff.1 hc
      rw [List.drop_eq_getElem_cons hi]; rfl
    have hlt : i < xs.length := by rw [hlen]; exact (Array.getElem?_eq_some_iff.1 h1).1
    have this2 : DataW.trod enc Try.prog w base spare held n 3 [c] = some xs[i] := by
      rw [← e]
      simpa [Value.cells, List.getElem?_eq_getElem hlt] using this
    obtain ⟨z, e0, _, _⟩ := DataW.trod_int Try.underlying3 this2
    simp at e0
    exact ⟨z, e0⟩
  obtain ⟨z0, rfl⟩ := key 0 _ (by omega) rfl
  obtain ⟨z1, rfl⟩ := key 1 _ (by omega) rfl
  obtain ⟨z2, rfl⟩ := key 2 _ (by omega) rfl
  obtain ⟨z3, rfl⟩ := key 3 _ (by omega) rfl
  obtain ⟨z4, rfl⟩ := key 4 _ (by omega) rfl
  exact ⟨_, _, _, _, _, _, _, _, _, _, rfl⟩
/-- Block g holds these numbers, and may be written. -/
def NBk (w : World) (g : Nat) (l : List Int) : Prop := w.heap[g]? = some (.cells (l.map (Value.int .i64)).toArray 3 (0, 0))
theorem NBk.cell {w : World} {g : Nat} {l : List Int} (h : NBk w g l) (i : Nat) (x : Int) (hx : l[i]? = some x) : w.cell? ⟨g, i, none⟩ = some (.int .i64 x) := by
  unfold NBk at h; simp [World.cell?, h, hx]
theorem NBk.free {w : World} {g : Nat} {l : List Int} (h : NBk w g l) (i : Nat) : w.frozen? ⟨g, i, none⟩ = false := by
  unfold NBk at h; simp [World.frozen?, h]
theorem NBk.lt {w : World} {g : Nat} {l : List Int} (h : NBk w g l) : g < w.heap.size := lt_of_block h
theorem NBk.same {w w' : World} {g : Nat} {l : List Int} (h : NBk w g l) (e : w'.heap[g]? = w.heap[g]?) : NBk w' g l := by
  unfold NBk at h ⊢; rw [e]; exact h
theorem NBk.below {w w' : World} {b g : Nat} {l : List Int} (h : NBk w g l) (hb : Below b w w') (q : g < b) : NBk w' g l := h.same (hb.block g q)
theorem NBk.set {w : World} {g : Nat} {l : List Int} (h : NBk w g l) (i : Nat) (x : Int) : NBk (w.setCell ⟨g, i, none⟩ (.int .i64 x)) g (l.set i x) := by
  have hlt := h.lt
  unfold NBk at h ⊢
  have h' : w.heap[g] = .cells (l.map (Value.int .i64)).toArray 3 (0, 0) := by simpa [Array.getElem?_eq_getElem hlt] using h
  show (w.heap.modify g _)[g]? = _
  rw [Array.getElem?_eq_getElem (by simpa using hlt), Array.getElem_modify_self, h']
  simp [List.map_set]
/-- A slice of these numbers in a block of its own that base lies below; of none it may be nil. -/
def IRow (base : Nat) (w : World) (l : List Int) (v : Value) : Prop := (l = [] ∧ v = .slice none 0 0) ∨ ∃ g, v = .slice (some ⟨g, 0, none⟩) l.length l.length ∧ base ≤ g ∧ NBk w g l
theorem IRow.below {base b : Nat} {w w' : World} {l : List Int} {v : Value} (h : IRow base w l v) (hb : Below b w w') (q : w.heap.size ≤ b) : IRow base w' l v := by
  rcases h with h | ⟨g, e, hg, n⟩
  · exact .inl h
  · exact .inr ⟨g, e, hg, n.below hb (Nat.lt_of_lt_of_le n.lt q)⟩
/-- Such a slice is answered. -/
def IRes (w : World) (l : List Int) (e : Ending) (w' : World) : Prop := ∃ v, e = .returned v ∧ IRow w.heap.size w' l v ∧ Below w.heap.size w w'
theorem ires_new {w : World} {l : List Int} {A : Array Value} {n : Nat} (h : A = (l.map (Value.int .i64)).toArray) (hn : n = l.length) : IRes w l (.returned (.slice (some ⟨w.heap.size, 0, none⟩) n n)) (w.alloc (.cells A 3)) := by
  subst h hn
  exact ⟨_, rfl, .inr ⟨_, rfl, Nat.le_refl _, heap_alloc_last w _⟩, (Below.refl _ _).alloc (Nat.le_refl _) _⟩
theorem fin_nil {w : World} {o : Obj} {l : List Int} (h : l = []) : IRes w l (.returned (.slice none 0 0)) (w.alloc o) := ⟨_, rfl, .inl ⟨h, rfl⟩, (Below.refl _ _).alloc (Nat.le_refl _) _⟩
theorem fin_on {w : World} {o : Obj} {l m : List Int} {e : Ending} {w' : World} (h : IRes (w.alloc o) l e w') (hl : m = l) : IRes w m e w' := by
  subst hl
  obtain ⟨v, rfl, hr, hb⟩ := h
  have z : w.heap.size ≤ (w.alloc o).heap.size := by rw [World.size_alloc]; omega
  refine ⟨v, rfl, ?_, ((Below.refl _ _).alloc (Nat.le_refl _) _).trans (hb.mono z)⟩
  rcases hr with h | ⟨g, e, hg, n⟩
  · exact .inl h
  · exact .inr ⟨g, e, Nat.le_trans z hg, n⟩
theorem fin_new {w : World} {o : Obj} {l : List Int} {A : Array Value} {n : Nat} (h : A = (l.map (Value.int .i64)).toArray) (hn : n = l.length) : IRes w l (.returned (.slice (some ⟨w.heap.size + 1, 0, none⟩) n n)) ((w.alloc o).alloc (.cells A 3)) := by
  have := ires_new (w := w.alloc o) h hn
  rw [show (w.alloc o).heap.size = w.heap.size + 1 by rw [World.size_alloc]] at this
  exact fin_on this rfl
/-- The registers that an instruction reads. -/
def usL (c a b x d : Int) : List Int :=
  if c = 2 ∨ c = 10 ∨ c = 11 then [b] else if c = 4 ∨ c = 12 ∨ c = 14 ∨ c = 15 ∨ c = 17 ∨ c = 22 then [a] else if c = 5 ∨ c = 8 then [d]
  else if c = 6 then (if a = d then [a] else [a, d]) else if c = 9 then (if b = x then [b] else [b, x]) else []
/-- The register that it sets. -/
def gvN (c a : Int) : Int := if c = 1 ∨ c = 2 ∨ c = 3 ∨ c = 5 ∨ c = 7 ∨ c = 8 ∨ c = 9 ∨ c = 10 ∨ c = 11 ∨ c = 13 ∨ c = 23 then a else -1
/-- Where it may go on. -/
def nxL (c b at' : Int) : List Int :=
  if c = 16 then [b] else if c = 20 ∨ c = 21 then [] else if c = 17 then (if b < at' + 1 then [b, at' + 1] else if at' + 1 < b then [at' + 1, b] else [at' + 1]) else [at' + 1]
theorem codes (c : Int) : (∃ n : Nat, 1 ≤ n ∧ n ≤ 23 ∧ c = n) ∨ (c ≠ 1 ∧ c ≠ 2 ∧ c ≠ 3 ∧ c ≠ 4 ∧ c ≠ 5 ∧ c ≠ 6 ∧ c ≠ 7 ∧ c ≠ 8 ∧ c ≠ 9 ∧ c ≠ 10 ∧ c ≠ 11 ∧ c ≠ 12 ∧ c ≠ 13 ∧ c ≠ 14 ∧ c ≠ 15 ∧ c ≠ 16 ∧ c ≠ 17 ∧ c ≠ 18 ∧ c ≠ 19 ∧ c ≠ 20 ∧ c ≠ 21 ∧ c ≠ 22 ∧ c ≠ 23) := by
  by_cases h : 1 ≤ c ∧ c ≤ 23
  · exact .inl ⟨c.toNat, by omega, by omega, by omega⟩
  · exact .inr (by omega)
theorem codes' (c : Int) : c = 1 ∨ c = 2 ∨ c = 3 ∨ c = 4 ∨ c = 5 ∨ c = 6 ∨ c = 7 ∨ c = 8 ∨ c = 9 ∨ c = 10 ∨ c = 11 ∨ c = 12 ∨ c = 13 ∨ c = 14 ∨ c = 15 ∨ c = 16 ∨ c = 17 ∨ c = 20 ∨ c = 21 ∨ c = 22 ∨ c = 23 ∨ (c ≠ 1 ∧ c ≠ 2 ∧ c ≠ 3 ∧ c ≠ 4 ∧ c ≠ 5 ∧ c ≠ 6 ∧ c ≠ 7 ∧ c ≠ 8 ∧ c ≠ 9 ∧ c ≠ 10 ∧ c ≠ 11 ∧ c ≠ 12 ∧ c ≠ 13 ∧ c ≠ 14 ∧ c ≠ 15 ∧ c ≠ 16 ∧ c ≠ 17 ∧ c ≠ 20 ∧ c ≠ 21 ∧ c ≠ 22 ∧ c ≠ 23) := by omega
section
variable (c a b x d : Int) (c5 c6 c7 c8 c9 : Value) (w : World)
set_option maxHeartbeats 1000000 in
theorem pair_of : Calls Try.prog 11 #[.int .i64 a, .int .i64 b] w (IRes w (if a = b then [a] else [a, b])) := by
  by_cases h : a = b
  · subst h
    go_enter Try.func11, Try.ntmps11
    go_wp2
    go_ret
    exact ires_new (by simp) (by simp)
  · go_enter Try.func11, Try.ntmps11
    go_wp2
    go_ret
    exact ires_new (by simp) (by simp)
set_option maxHeartbeats 1000000 in
theorem Uses_of : Calls Try.prog 4 #[Iq c a b x d c5 c6 c7 c8 c9] w (IRes w (usL c a b x d)) := by
  rcases codes' c with rfl | rfl | rfl | rfl | rfl | rfl | rfl | rfl | rfl | rfl | rfl | rfl | rfl | rfl | rfl | rfl | rfl | rfl | rfl | rfl | rfl | ⟨g1, g2, g3, g4, g5, g6, g7, g8, g9, g10, g11, g12, g13, g14, g15, g16, g17, g20, g21, g22, g23⟩
  all_goals
    go_enter Try.func4, Try.ntmps4
    go_wp2_with (go_at_call 11; refine (pair_of _ _ _).mono ?_; rintro e w1 ⟨v, rfl, hr, hb⟩)
    go_ret
    first
      | exact fin_nil (by simp [usL, *])
      | exact fin_new (by simp [usL, *]) (by simp [usL, *])
      | exact fin_on ⟨v, rfl, hr, hb⟩ (by simp [usL, *])
set_option maxHeartbeats 1000000 in
theorem UsesR_of : Calls Try.prog 5 #[Iq c a b x d c5 c6 c7 c8 c9] w (IRes w (usL c a b x d)) := by
  rcases codes' c with rfl | rfl | rfl | rfl | rfl | rfl | rfl | rfl | rfl | rfl | rfl | rfl | rfl | rfl | rfl | rfl | rfl | rfl | rfl | rfl | rfl | ⟨g1, g2, g3, g4, g5, g6, g7, g8, g9, g10, g11, g12, g13, g14, g15, g16, g17, g20, g21, g22, g23⟩
  all_goals
    go_enter Try.func5, Try.ntmps5
    go_wp2
    all_goals
      go_ret
      first
        | exact fin_nil (by simp [usL, *])
        | exact fin_new (by simp_all [usL]) (by simp_all [usL])
end
end Go.Proofs.Ytmbbabadlblopaa
