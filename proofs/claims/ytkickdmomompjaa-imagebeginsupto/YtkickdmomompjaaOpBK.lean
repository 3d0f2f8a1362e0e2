/- How a row of bytes reads as an argument; no statement of the seat is proved here. -/
import Derived.Test.YtkickdmomompjaaRcEK
import Derived.ProofKit
import Derived.OpenShut
import Derived.SizedLaws
import Derived.Lib.SmallJoins
import Derived.Deep.Slices
namespace Go.Proofs.Ytkickdmomompjaa
set_option linter.unusedVariables false
set_option linter.unusedSimpArgs false
open Go.RowKit Go.ChangeShapes Go.WideShapes Go.ChangeAt Go.Joins Go.Deep
theorem some_lt {n : Nat} {p : Nat → Nat → Prop} (h : ∀ i, i < n → ∃ t, p i t) : ∃ f : Nat → Nat, ∀ i, i < n → p i (f i) := by
  classical
  exact ⟨fun i => if hi : i < n then (h i hi).choose else 0, fun i hi => by simp only [hi, dif_pos]; exact (h i hi).choose_spec⟩
set_option maxRecDepth 100000 in
theorem open_bytes {H : Type} {enc : TypeId × Value → H} {w : World} {base b0 : Nat} {spare : Nat → Bool} {held : Bool} {r : Reach} {v : Value} {d : DataW H} {p : List MemPlace}
    (hv : Value.okWide Try.prog w r b0 22 v) (h : DataW.Trod enc Try.prog w base spare held 22 v d p) :
    ∃ (x : Option Addr) (c : Nat) (l : List Nat), v = .slice x l.length c ∧ (x = none → l = [] ∧ c = 0) ∧ BySl x l w ∧ (∀ b ∈ l, b < 256) ∧ l.length ≤ c ∧ (l.length = 0 ∨ ∃ el sp, d = .slice el sp ∧ el.length = l.length) := by
  obtain ⟨ad, n, cap, rfl⟩ := okWide_slice Try.underlying22 hv
  obtain ⟨fuel, hf⟩ := h
  rcases open_slice Try.underlying22 hf with ⟨e, _⟩ | ⟨a, len, c, m, k, D, Pl, e, hb, hl, hm, hmm, hx, hh⟩
  · simp [Value.cells] at e
    obtain ⟨rfl, rfl, rfl⟩ := e
    exact ⟨none, 0, [], rfl, fun _ => ⟨rfl, rfl⟩, fun k b hk => by simp at hk, fun b hb => by simp at hb, Nat.le_refl _, .inl rfl⟩
  · simp [Value.cells] at e
    obtain ⟨rfl, rfl, rfl⟩ := e
    rw [show Try.prog.cellsOf 5 = 1 by kernel_rfl] at hh
    have hlm : n ≤ m := by rw [hmm]; split <;> omega
    obtain ⟨f, hf⟩ := some_lt (n := n) (p := fun i t => w.cell? (a.add i) = some (.int .u8 (t : Nat)) ∧ t < 256) (fun i hi => by
      obtain ⟨cs, h1, h2⟩ := hh i (by omega)
      obtain ⟨_, hlen, g⟩ := World.cells?_some h1
      match cs, hlen with
      | [c0], _ =>
        obtain ⟨k, hk, _, wk⟩ := DataW.trod_int Try.underlying5 h2
        simp at hk
        have bk := bounds_u8 wk
        have g0 := g 0 (by omega)
        rw [Nat.mul_one] at g0
        refine ⟨k.toNat, ?_, by omega⟩
        rw [show ((k.toNat : Nat) : Int) = k by omega]
        have e0 : (a.add i).add 0 = a.add i := by unfold Addr.add; simp
        rw [e0] at g0
        rw [hk] at g0
        simpa using g0)
    have hat : ∀ (j b : Nat), ((List.range n).map f)[j]? = some b → j < n ∧ f j = b := fun j b hj => by
      rw [List.getElem?_map] at hj
      obtain ⟨i, hi, e⟩ := Option.map_eq_some_iff.1 hj
      have hn : j < n := by
        rcases Nat.lt_or_ge j n with z | z
        · exact z
        · rw [List.getElem?_eq_none (by simpa using z)] at hi; cases hi
      rw [List.getElem?_range hn] at hi
      cases hi
      exact ⟨hn, e⟩
    have hsp : 0 < n → a.spot = none := fun h0 => by
      have q := (hf 0 h0).1
      rw [show a.add 0 = a by unfold Addr.add; simp] at q
      unfold World.cell? at q
      split at q
      · cases hs : a.spot with
        | none => rfl
        | some z => rw [hs] at q; simp at q
      · cases q
    have hlen : ((List.range n).map f).length = n := by simp
    refine ⟨some a, cap, (List.range n).map f, by rw [hlen], fun e => by simp at e, fun j b hj => ?_, fun b hb => ?_, by rw [hlen]; exact hl, ?_⟩
    · obtain ⟨hn, rfl⟩ := hat j b hj
      have q := (hf j hn).1
      have s0 := hsp (by omega)
      have ea : a = ⟨a.block, a.off, none⟩ := by cases a; simp at s0; subst s0; rfl
      have ej : a.add j = ⟨a.block, a.off + j, none⟩ := by rw [ea]; exact Addr.add_mid _ _ _
      rw [ej] at q
      exact ⟨a.block, a.off, by rw [← ea], (show (⟨a.block, a.off + j, none⟩ : Addr).block < _ from block_lt_of_cell q), q⟩
    · obtain ⟨i, hi, rfl⟩ := List.mem_map.1 hb
      exact (hf i (List.mem_range.1 hi)).2
    · exact .inr ⟨_, _, (Prod.mk.inj hx).1, by simp⟩
end Go.Proofs.Ytkickdmomompjaa
