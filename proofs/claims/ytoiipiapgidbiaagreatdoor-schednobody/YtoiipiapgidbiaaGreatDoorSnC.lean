/- A row of inputs copied; the questions of a resource that no call made; no statement of the seat is proved here. -/
import Derived.Test.YtoiipiapgidbiaaGreatDoorSnB
import Derived.Deep.RegionLaw
import Derived.OwnWalk
namespace Go.Proofs.YtoiipiapgidbiaaGreatDoor
set_option linter.unusedVariables false
set_option linter.unusedSimpArgs false
open Go.RowKit
theorem ad_block (a : Addr) (j : Nat) : (a.add j).block = a.block := by unfold Addr.add; split <;> rfl
/-- Inputs lie in a row. -/
def InAt (w : World) (x : Option Addr) (n : Nat) : Prop := (x = none → n = 0) ∧ ∀ a, x = some a → ∃ xs : List Value, xs.length = n * 4 ∧ (∀ (j : Nat) u, xs[j]? = some u → a.block < w.heap.size ∧ w.cell? (a.add j) = some u) ∧ ∀ u ∈ xs, u.oneCell' = true
theorem InAt.up {w W : World} {x : Option Addr} {n : Nat} (h : InAt w x n) (hb : Below w.heap.size w W) : InAt W x n :=
  ⟨h.1, fun a ha => by
    obtain ⟨xs, h1, h2, h3⟩ := h.2 a ha
    exact ⟨xs, h1, fun j u hj => ⟨Nat.lt_of_lt_of_le (h2 j u hj).1 hb.size, (hb.cell (by rw [ad_block]; exact (h2 j u hj).1)).trans (h2 j u hj).2⟩, h3⟩⟩
theorem sli_nil (a : Addr) (n cap : Nat) (w : World) : (binOp .eql 26 (.slice (some a) n cap) (.slice none 0 0)).run Tryz.prog w = .ok (.bool false) w := by kernel_rfl
theorem sli_nilT (w : World) : (binOp .eql 26 (.slice none 0 0) (.slice none 0 0)).run Tryz.prog w = .ok (.bool true) w := by kernel_rfl
theorem owni_none (w : World) : (w.alloc (.cells #[] 48)).ownsRow w.heap.size 48 4 (.slice (some ⟨w.heap.size, 0, none⟩) 0 0) 0 [] :=
  ⟨rfl, .inr ⟨w.heap.size, 0, #[], rfl, Nat.le_refl _, heap_alloc_last w _, Nat.le_refl _, Nat.zero_le _, rfl, rfl⟩⟩
theorem in_info : ∃ i, Tryz.prog.info? 48 = some i ∧ i.zero = some (.agg #[.string ⟨#[]⟩, .int .u8 0, .int .u64 0, .string ⟨#[]⟩]) ∧ i.size = 4 ∧ i.bytes = 48 := by
  obtain ⟨i, hi, hz⟩ := Option.map_eq_some_iff.1 (show (Tryz.prog.info? 48).map (fun i => (i.zero, i.size, i.bytes)) = some (some (.agg #[.string ⟨#[]⟩, .int .u8 0, .int .u64 0, .string ⟨#[]⟩]), 4, 48) by kernel_rfl)
  simp only [Prod.mk.injEq] at hz
  exact ⟨i, hi, hz.1, hz.2.1, hz.2.2⟩
set_option maxHeartbeats 1000000 in
theorem CloneI (x : Option Addr) (n c : Nat) (w : World) (hx : InAt w x n) (h0 : x = none → c = 0) (hb : n * 48 ≤ 140737488351232) :
    Calls Tryz.prog 5 #[.slice x n c] w fun e w' => (∃ y k d, e = .returned (.slice y k d)) ∧ Below w.heap.size w w' := by
  cases x with
  | none =>
    obtain rfl := hx.1 rfl
    obtain rfl := h0 rfl
    have sn := sli_nilT
    go_enter Tryz.func5, Tryz.ntmps5
    go_wp2
    go_ret
    exact ⟨⟨_, _, _, rfl⟩, Below.refl _ _⟩
  | some a =>
    have sn := sli_nil a n c
    obtain ⟨xs, h1, h2, h3⟩ := hx.2 a rfl
    have SRC : Hid (∀ V, Below w.heap.size w V → ∀ (j : Nat) u, xs[j]? = some u → V.cell? (a.add j) = some u) := fun V hV j u hu => (hV.cell (by rw [ad_block]; exact (h2 j u hu).1)).trans (h2 j u hu).2
    have ONE : Hid (∀ u ∈ xs, u.oneCell' = true) := h3
    have LN : Hid (xs.length = n * 4) := h1
    have I : Hid _ := in_info
    have NB : Hid (n * 48 ≤ 140737488351232) := hb
    clear hx h0 h1 h2 h3 hb
    go_enter Tryz.func5, Tryz.ntmps5
    go_wp2_with (at_builtin; obtain ⟨i, hi, hz, hs, hy⟩ := I.out; refine wpList_append_own _ rfl _ _ 26 rfl w.heap.size 48 i _ 4 48 Tryz.underlying26 hi hz hs hy rfl (by decide) _ 0 [] rfl (owni_none w) a n c xs rfl LN.out (SRC.out _ ((Below.refl _ _).alloc (Nat.le_refl _) _)) ONE.out (by have := NB.out; simp [maxLen]; omega) (by have := NB.out; omega) (by simp) ?_; intro v' w' h1 h2 h3; obtain ⟨y, k, d, rfl⟩ : ∃ y k d, v' = .slice y k d := (by rcases h1.2 with ⟨e, _⟩ | ⟨g, cap, cur, e, _⟩ <;> exact ⟨_, _, _, e⟩); have H2 : Hid _ := h2; clear h1 h2 h3 hi hz hs hy)
    go_ret
    exact ⟨⟨_, _, _, rfl⟩, ((Below.refl _ _).alloc (Nat.le_refl _) _).grown H2.out (by simp) (fun k e => by cases e; exact Nat.le_refl _)⟩
end Go.Proofs.YtoiipiapgidbiaaGreatDoor
