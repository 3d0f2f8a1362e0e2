/- How the inputs of SchedNobody read as arguments; no statement of the seat is proved here. -/
import Derived.Test.YtoiipiapgidbiaaGreatDoorSnD
import Derived.ShutString
import Derived.ChangeOld
import Derived.ChangeMaps5
import Derived.ChangeSame
import Derived.Below
import Derived.LaidSub
import Derived.Lay
import Derived.MakeChecks
import Derived.SevenTiedAt
import Derived.Stop.Joined
import Derived.ProofKit
import Derived.OpenShut
import Derived.SizedLaws
import Derived.Lib.SmallJoins
import Derived.Deep.Slices
import Derived.Deep.Strs
namespace Go.Proofs.YtoiipiapgidbiaaGreatDoor.LawSchedNobody
set_option linter.unusedVariables false
set_option linter.unusedSimpArgs false
open Go.RowKit Go.ChangeShapes Go.WideShapes Go.ChangeAt Go.Joins Go.Deep
theorem own : ownKnob Tryz.prog.godebug = none := by kernel_rfl
theorem laidOut : laidOutB Tryz.prog = true := by kernel_rfl
theorem cellsV' : Tryz.prog.cellsOf 25 = 3 := by kernel_rfl
theorem cellsI : Tryz.prog.cellsOf 48 = 4 := by kernel_rfl
theorem two_off (a : Addr) (i j : Nat) : (a.add i).add j = a.add (i + j) := by
  unfold Addr.add
  by_cases hi : i = 0 <;> by_cases hj : j = 0 <;> simp [hi, hj, Nat.add_assoc]
section
variable {H : Type} {enc : TypeId × Value → H} {w : World} {base b0 : Nat} {spare : Nat → Bool} {held : Bool} {r : Reach} {v : Value} {d : DataW H} {p : List MemPlace}
set_option maxRecDepth 100000 in
theorem open_value (hv : Value.okWide Tryz.prog w r b0 25 v) (h : DataW.Trod enc Tryz.prog w base spare held 25 v d p) :
    ∃ k b s, v = .agg #[.int .u8 k, .int .u64 b, .string s] := by
  obtain ⟨c0, c1, c2, y0, y1, y2, m, rfl, rfl, rfl, hy0, hy1, hy2⟩ := open_agg3 Tryz.underlying25 (by kernel_rfl) cellsV' hv h
  obtain ⟨k, e0, _, wk⟩ := DataW.trod_int Tryz.underlying22 hy0
  obtain ⟨b, e1, _, wb⟩ := DataW.trod_int Tryz.underlying23 hy1
  obtain ⟨s, e2, _, ws⟩ := DataW.trod_string Tryz.underlying9 hy2
  simp at e0 e1 e2
  subst e0 e1 e2
  exact ⟨k, b, s, rfl⟩
set_option maxRecDepth 100000 in
theorem input_cells {n : Nat} {cs : List Value} {x : DataW H × List MemPlace} (h : DataW.trod enc Tryz.prog w base spare held n 48 cs = some x) : ∀ u ∈ cs, u.oneCell' = true := by
  obtain ⟨y0, y1, m, _, hl, h0, h1⟩ := trod_struct2 Tryz.underlying48 h
  rw [cellsI] at hl
  match cs, hl with
  | [c0, c1, c2, c3], _ =>
    have e0 : DataW.trod enc Tryz.prog w base spare held m 9 [c0] = some y0 := h0
    have e1 : DataW.trod enc Tryz.prog w base spare held m 25 [c1, c2, c3] = some y1 := h1
    obtain ⟨z0, z1, z2, m', _, _, g0, g1, g2⟩ := trod_struct3 Tryz.underlying25 e1
    have f0 : DataW.trod enc Tryz.prog w base spare held m' 22 [c1] = some z0 := g0
    have f1 : DataW.trod enc Tryz.prog w base spare held m' 23 [c2] = some z1 := g1
    have f2 : DataW.trod enc Tryz.prog w base spare held m' 9 [c3] = some z2 := g2
    obtain ⟨s, hs, _, _⟩ := DataW.trod_string Tryz.underlying9 e0
    obtain ⟨k, hk, _, _⟩ := DataW.trod_int Tryz.underlying22 f0
    obtain ⟨b, hb, _, _⟩ := DataW.trod_int Tryz.underlying23 f1
    obtain ⟨s2, hs2, _, _⟩ := DataW.trod_string Tryz.underlying9 f2
    simp at hs hk hb hs2
    subst hs hk hb hs2
    intro u hu
    simp only [List.mem_cons, List.not_mem_nil, or_false] at hu
    rcases hu with rfl | rfl | rfl | rfl <;> rfl
set_option maxRecDepth 100000 in
theorem open_inputs (hv : Value.okWide Tryz.prog w r b0 26 v) (h : DataW.Trod enc Tryz.prog w base spare held 26 v d p) :
    ∃ (x : Option Addr) (n c : Nat), v = .slice x n c ∧ (x = none → c = 0) ∧ InAt w x n ∧ (n = 0 ∨ ∃ el sp, d = .slice el sp ∧ el.length = n) := by
  obtain ⟨ad, n, cap, rfl⟩ := okWide_slice Tryz.underlying26 hv
  obtain ⟨fuel, hf⟩ := h
  rcases open_slice Tryz.underlying26 hf with ⟨e, _⟩ | ⟨a, len, c, m, k, D, Pl, e, hb, hl, hm, hmm, hx, hh⟩
  · simp [Value.cells] at e
    obtain ⟨rfl, rfl, rfl⟩ := e
    exact ⟨none, 0, 0, rfl, fun _ => rfl, ⟨fun _ => rfl, fun a e => by cases e⟩, .inl rfl⟩
  · simp [Value.cells] at e
    obtain ⟨rfl, rfl, rfl⟩ := e
    rw [cellsI] at hh
    have hlm : n ≤ m := by rw [hmm]; split <;> omega
    have HC : ∀ j, j < n * 4 → ∃ u, w.cell? (a.add j) = some u ∧ u.oneCell' = true := fun j hj => by
      obtain ⟨cs, h1, h2⟩ := hh (j / 4) (by omega)
      obtain ⟨_, hlen, g⟩ := World.cells?_some h1
      have g0 := g (j % 4) (by omega)
      rw [two_off, show j / 4 * 4 + j % 4 = j by omega] at g0
      have hj4 : j % 4 < cs.length := by rw [hlen]; omega
      rw [List.getElem?_eq_getElem hj4] at g0
      exact ⟨_, g0, input_cells h2 _ (List.getElem_mem hj4)⟩
    refine ⟨some a, n, cap, rfl, fun e => (by cases e), ⟨fun e => (by cases e), fun a' ea => ?_⟩, .inr ⟨_, _, (Prod.mk.inj hx).1, by simp⟩⟩
    cases ea
    refine ⟨(List.range (n * 4)).map fun j => (w.cell? (a.add j)).getD undef, by simp, fun j u hj => ?_, fun u hu => ?_⟩
    · rw [List.getElem?_map] at hj
      obtain ⟨i, hi, e⟩ := Option.map_eq_some_iff.1 hj
      have hn : j < n * 4 := by
        rcases Nat.lt_or_ge j (n * 4) with z | z
        · exact z
        · rw [List.getElem?_eq_none (by simpa using z)] at hi; cases hi
      rw [List.getElem?_range hn] at hi
      cases hi
      obtain ⟨u', hu', _⟩ := HC j hn
      rw [hu'] at e
      have e' : u' = u := e
      subst e'
      exact ⟨by have q := block_lt_of_cell hu'; rwa [ad_block] at q, hu'⟩
    · obtain ⟨j, hj, e⟩ := List.mem_map.1 hu
      obtain ⟨u', hu', ho⟩ := HC j (by simpa using hj)
      rw [hu'] at e
      have e' : u' = u := e
      rw [← e']; exact ho
end
end Go.Proofs.YtoiipiapgidbiaaGreatDoor.LawSchedNobody
