/- How arguments read: slices, structs; no statement of the seat is proved here. -/
import Derived.Test.YtcoeinfopfcekaaTrI
import Derived.ProofKit
import Derived.OpenShut
namespace Go.Proofs.Ytcoeinfopfcekaa
set_option linter.unusedVariables false
open Go.RowKit Go.ChangeShapes Go.WideShapes Go.ChangeAt
theorem add_off (a : Addr) (i j : Nat) : (a.add i).add j = a.add (i + j) := by
  unfold Addr.add
  by_cases hi : i = 0 <;> by_cases hj : j = 0 <;> simp [hi, hj, Nat.add_assoc]
theorem add_pos (a : Addr) (j : Nat) (h : 0 < j) : a.add j = ⟨a.block, a.off + j, none⟩ := by
  unfold Addr.add; rw [if_neg (by omega)]
theorem pick_lt {α : Type} (p : Nat → α → Prop) : ∀ n, (∀ i, i < n → ∃ t, p i t) → ∃ l : List α, l.length = n ∧ ∀ i t, l[i]? = some t → p i t
  | 0, _ => ⟨[], rfl, fun i t h => by simp at h⟩
  | n + 1, h => by
    obtain ⟨l, hl, hp⟩ := pick_lt p n fun i hi => h i (by omega)
    obtain ⟨t, ht⟩ := h n (by omega)
    refine ⟨l ++ [t], by simp [hl], fun i u hu => ?_⟩
    by_cases hi : i < n
    · rw [List.getElem?_append_left (by omega)] at hu; exact hp i u hu
    · have e : i = n := by
        have := (List.getElem?_eq_some_iff.1 hu).1
        simp at this
        omega
      subst e
      rw [List.getElem?_append_right (by omega), hl] at hu
      simp at hu
      subst hu
      exact ht
theorem one_le {H : Type} (d : DataW H) : 1 ≤ Rows.uptoBulk d := by
  cases d with
  | lit l => cases l <;> simp [Rows.uptoBulk]
  | nil => simp [Rows.uptoBulk]
  | ptr d => simp [Rows.uptoBulk]
  | slice elems spare => simp [Rows.uptoBulk]
  | agg parts => simp [Rows.uptoBulk]
  | iface t d => simp [Rows.uptoBulk]
  | map entries => simp [Rows.uptoBulk]
  | held h => simp [Rows.uptoBulk]
theorem elem_le {H : Type} : ∀ {l : List (DataW H × List MemPlace)} {i : Nat} {y : DataW H × List MemPlace}, l[i]? = some y → Rows.uptoBulk y.1 ≤ Rows.uptoBulkAll (l.map (·.1))
  | [], i, y, h => by simp at h
  | a :: l, 0, y, h => by
    simp at h
    subst h
    simp only [List.map_cons, Rows.uptoBulkAll]
    omega
  | a :: l, i + 1, y, h => by
    have := elem_le (l := l) (i := i) (y := y) (by simpa using h)
    simp only [List.map_cons, Rows.uptoBulkAll]
    omega
theorem len_le {H : Type} : ∀ l : List (DataW H × List MemPlace), l.length ≤ Rows.uptoBulkAll (l.map (·.1))
  | [] => by simp [Rows.uptoBulkAll]
  | a :: l => by
    have := len_le l
    have := one_le a.1
    simp only [List.map_cons, Rows.uptoBulkAll, List.length_cons]
    omega
section
variable {H : Type} {enc : TypeId × Value → H} {w : World} {base : Nat} {spare : Nat → Bool} {held : Bool}
/-- A slice, as it is read. -/
theorem rd_slice {fuel : Nat} {t e : TypeId} {v : Value} {x : DataW H × List MemPlace} (ht : Try.prog.underlying t = some (.slice e)) (k : Nat) (hk : Try.prog.cellsOf e = k) (h : DataW.trod enc Try.prog w base spare held fuel t [v] = some x) :
    v = .slice none 0 0 ∨ ∃ a len cap m, fuel = m + 1 ∧ v = .slice (some a) len cap ∧ len + 1 ≤ Rows.uptoBulk x.1 ∧ ∀ i, i < len → ∃ cs y, (∀ j, j < k → w.cell? (a.add (i * k + j)) = cs[j]?) ∧ cs.length = k ∧ DataW.trod enc Try.prog w base spare held m e cs = some y ∧ Rows.uptoBulk y.1 + 1 ≤ Rows.uptoBulk x.1 := by
  rcases DataW.trod_slice ht h with ⟨e1, _⟩ | ⟨a, len, cap, elems, rest, n, rfl, hc, hx, hb, hl, hm, hel, he, _⟩
  · simp at e1
    exact .inl e1
  · simp at hc
    refine .inr ⟨a, len, cap, n, rfl, hc, ?_, fun i hi => ?_⟩
    · have := len_le elems
      rw [hx]
      simp only [Rows.uptoBulk]
      omega
    · have q := he i hi
      have e2 : elems[i]? = some (elems[i]'(by omega)) := List.getElem?_eq_getElem _
      rw [e2, hk] at q
      obtain ⟨cs, h1, h2⟩ := Option.bind_eq_some_iff.1 q
      obtain ⟨_, hlen, g⟩ := World.cells?_some h1
      refine ⟨cs, _, fun j hj => by have := g j hj; rwa [add_off] at this, hlen, h2, ?_⟩
      have := elem_le e2
      rw [hx]
      simp only [Rows.uptoBulk]
      omega
theorem blk {a : Addr} {i : Nat} {u : Value} (h : w.cell? (a.add i) = some u) : a.block < w.heap.size := by have := block_lt_of_cell h; rwa [add_block] at this
/-- A struct, as it is read, field by field. -/
theorem rd_struct {fuel : Nat} {t : TypeId} {cs : List Value} {x : DataW H × List MemPlace} {L : List (TypeId × Nat)} (ht : Try.prog.underlying t = some (.struct (Try.prog.fieldsOf t))) (hL : ((Try.prog.fieldsOf t).map (fun f => (f.type, f.offset))).toList = L)
    (h : DataW.trod enc Try.prog w base spare held fuel t cs = some x) : ∃ (xs : List (DataW H × List MemPlace)) (m : Nat), fuel = m + 1 ∧ x.1 = .agg (xs.map (·.1)) ∧ cs.length = Try.prog.cellsOf t ∧ xs.length = L.length ∧ ∀ (i : Nat) (u : TypeId) (o : Nat), L[i]? = some (u, o) → DataW.trod enc Try.prog w base spare held m u ((cs.drop o).take (Try.prog.cellsOf u)) = xs[i]? := by
  obtain ⟨xs, n, e, hx, hl, hlen, hf⟩ := DataW.trod_struct ht h
  refine ⟨xs, n, e, by rw [hx], hl, by rw [hlen, ← hL]; simp, fun i u o hi => ?_⟩
  rw [← hL] at hi
  simp only [Array.toList_map, List.getElem?_map, Option.map_eq_some_iff, Array.getElem?_toList, Prod.mk.injEq] at hi
  obtain ⟨f, h1, rfl, rfl⟩ := hi
  exact hf i f h1
theorem fieldsV : ((Try.prog.fieldsOf 39).map (fun f => (f.type, f.offset))).toList = [(36, 0), (37, 1), (9, 2)] := by kernel_rfl
end
end Go.Proofs.Ytcoeinfopfcekaa
