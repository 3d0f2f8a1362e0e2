/- Expressions in a row copied: the walk; no statement of the seat is proved here. -/
import Derived.Test.YtcoeinfopfcekaaTrK
namespace Go.Proofs.Ytcoeinfopfcekaa
set_option linter.unusedVariables false
open Go.RowKit
theorem infoX : ∃ i z, Try.prog.info? 42 = some i ∧ i.zero = some z ∧ i.size = 14 ∧ i.bytes = 168 ∧ z.cells.size = 14 := by
  obtain ⟨i, hi, hz⟩ := Option.map_eq_some_iff.1 (show (Try.prog.info? 42).map (fun i => (i.zero.map (·.cells.size), i.size, i.bytes)) = some (some 14, 14, 168) by kernel_rfl)
  simp only [Prod.mk.injEq] at hz
  obtain ⟨z, h1, h2⟩ := Option.map_eq_some_iff.1 hz.1
  exact ⟨i, z, hi, h1, hz.2.1, hz.2.2, h2⟩
theorem own_below {w w' : World} {base : Nat} {e : TypeId} {size : Nat} {v : Value} {n : Nat} {xs : List Value} (h : w.ownsRow base e size v n xs) (hb : Below w.heap.size w w') : w'.ownsRow base e size v n xs :=
  h.kept (row := none) ⟨hb.os, hb.tape, hb.output, hb.size, fun k hk _ => hb.block k hk⟩ (by cases v.ownBlock <;> simp)
theorem made_cells (w : World) (L : List Value) (t : TypeId) (j : Nat) (u : Value) (h : L[j]? = some u) : (w.alloc (.cells L.toArray t)).cell? ((⟨w.heap.size, 0, none⟩ : Addr).add j) = some u := by
  have e : (⟨w.heap.size, 0, none⟩ : Addr).add j = ⟨w.heap.size, j, none⟩ := by unfold Addr.add; split <;> simp_all
  rw [e]
  have q := heap_alloc_last w (.cells L.toArray t)
  unfold World.cell?
  simp only [q]
  simpa using h
set_option maxRecDepth 20000 in
set_option maxHeartbeats 4000000 in
theorem cpL_of (d : Nat) (X : CpX d) : CpL (d + 1) := by
  intro w x l c hk
  have HX : Hid (CpX d) := X
  have HA : Hid (KdAt (d + 1) w x l) := hk
  have I : Hid _ := infoX
  clear X hk
  go_enter Try.func26, Try.ntmps26
  go_wp2_with fail
  go_loopw [3, 8] (fun out i wr => ∃ k : Nat, k ≤ l.length ∧ i = .int .i64 k ∧ Below w.heap.size w wr ∧ CpI d w l k out wr) (fun _ i _ => l.length - (intOf i).toNat)
  case atStart => exact ⟨0, Nat.zero_le _, rfl, Below.refl _ _, CpI.zero _ _ _⟩
  case round =>
    obtain ⟨k, hk, rfl, hbw, hcp⟩ := hrel
    have HW : Hid (Below w.heap.size w wr) := hbw
    by_cases hlt : k < l.length
    · obtain ⟨hs, ehs, how, hev⟩ := hcp
      have EHS : Hid _ := ehs
      have OW : Hid (wr.ownsRow w.heap.size 42 14 u3 k (xcL hs)) := how
      have EV' : Hid _ := hev
      clear ehs how hev
      obtain ⟨a, rfl⟩ : ∃ a, x = some a := by
        cases x with
        | none => have := HA.out.2.1 rfl; rw [this] at hlt; exact absurd hlt (Nat.not_lt_zero _)
        | some a => exact ⟨a, rfl⟩
      obtain ⟨h1, ns1, l1, z1, d1, z2, d2, e1, ec1, ev1⟩ := (HA.out.below hbw).el k hlt
      have E1 : Hid _ := e1
      have V1 : Hid (EvOk d wr (EV h1 (.slice z1 l1.length d1) (.slice z2 ns1.length d2)) (Ex.mk h1 ns1 l1)) := ev1
      have LT : Hid _ := hlt
      have kl : (k : Int) < l.length := by omega
      obtain ⟨x0, x1, x2, x3, x4, x5, x6, x7, x8, x9, x10, x11, x12, x13⟩ := ec1
      clear hbw hlt e1 ev1
      have za := block_lt_of_cell x0
      have GR : Hid (∀ X : Obj, Below wr.heap.size wr (wr.alloc X)) := fun X => (Below.refl _ _).alloc (Nat.le_refl _) _
      go_wp2_with fail
      refine (HX.out _ _ _ (EvOk.below V1.out (GR.out _))).mono ?_
      rintro r w5 ⟨⟨v5, rfl, hv5⟩, hb5⟩
      have B5 : Hid (Below wr.heap.size wr w5) := (GR.out _).trans (hb5.mono (by simp))
      have F5 : Hid (EvF (Fresh wr.heap.size w5.heap.size) d w5 v5 (Ex.mk h1 ns1 l1)) := EvF.sub (fun b hb => ⟨by have := hb.1; simp at this; omega, hb.2⟩) hv5
      clear hv5 hb5 x0 x1 x2 x3 x4 x5 x6 x7 x8 x9 x10 x11 x12 x13 za GR
      have ew : wrap64 ((k : Int) + 1) = (k : Int) + 1 := by have := HA.out.1; have := LT.out; unfold wrap64; omega
      obtain ⟨y1, g1, y2, g2, rfl, _⟩ : ∃ x c y c', v5 = EV h1 (.slice x l1.length c) (.slice y ns1.length c') ∧ True := by
        obtain ⟨x, c, y, c', e, _⟩ := F5.out
        exact ⟨x, c, y, c', e, trivial⟩
      have OW5 : Hid (∀ X : Obj, (w5.alloc X).ownsRow w.heap.size 42 14 u3 k (xcL hs)) := fun X => (own_below OW.out B5.out).alloc X
      have NW : Hid (∀ j u, (xc (h1, .slice y1 l1.length g1, .slice y2 ns1.length g2))[j]? = some u → (w5.alloc (.cells (xc (h1, .slice y1 l1.length g1, .slice y2 ns1.length g2)).toArray 42)).cell? ((⟨w5.heap.size, 0, none⟩ : Addr).add j) = some u) := fun j u h => made_cells w5 _ _ j u h
      have BZ : Hid (∀ X : Obj, w.heap.size ≤ (w5.alloc X).heap.size) := fun X => by have := HW.out.size; have := B5.out.size; simp; omega
      have LE : Hid (k + 1 ≤ 549755813888) := by have := HA.out.1; have := LT.out; show k + 1 ≤ _; omega
      go_wp2_with (at_builtin; obtain ⟨i, z, hi, hz, hs', hy, hzc⟩ := I.out; refine wpList_append_own_at _ rfl _ _ 40 rfl w.heap.size 42 i z 14 168 Try.underlying40 hi hz hs' hy hzc (by decide) u3 k (xcL hs) rfl (OW5.out _) ⟨w5.heap.size, 0, none⟩ 1 1 (xc (h1, .slice y1 l1.length g1, .slice y2 ns1.length g2)) rfl rfl NW.out (by intro u hu; simp [xc] at hu; rcases hu with h | h | h | h | h | h | h | h | h | h | h | h | h | h <;> subst h <;> rfl) (by have := LE.out; simp [maxLen]; omega) (by have := LE.out; omega) (BZ.out _) ?_; intro v' w7 q1 q2 q3 q4; have Q1 : Hid _ := q1; have Q2 : Hid _ := q2; have Q4 : Hid _ := q4; clear q1 q2 q3 q4 hi hz hs' hy hzc)
      rw [ew]
      have b6 : ∀ X : Obj, Below w5.heap.size w5 (w5.alloc X) := fun X => (Below.refl _ _).alloc (Nat.le_refl _) _
      have s0 := HW.out.size
      refine ⟨⟨k + 1, Nat.succ_le_of_lt LT.out, rfl, ?_, CpI.step EHS.out EV'.out OW.out.lt (h1, .slice y1 l1.length g1, .slice y2 ns1.length g2) _ E1.out s0 B5.out (b6 _) F5.out Q2.out Q1.out Q4.out⟩, msr LT.out⟩
      exact ((HW.out.trans (B5.out.mono s0)).alloc (by have := B5.out.size; omega) _).grown Q2.out (BZ.out _) (fun g e => (OW.out.lt g e).1)
    · have kl : ¬ (k : Int) < l.length := by omega
      have ek : k = l.length := by omega
      subst ek
      obtain ⟨y, c2, rfl, hy⟩ := hcp.done HA.out.1
      have HY : Hid _ := hy
      clear hy hcp hbw hlt
      go_wp2
      go_ret
      exact ⟨⟨y, ⟨c2, rfl⟩, HY.out⟩, HW.out⟩
end Go.Proofs.Ytcoeinfopfcekaa
