/- The law's questions of a panel and a pair that no call made; no statement of the seat is proved here. -/
import Derived.Test.YtiopaokappbelaaGreatWnB
namespace Go.Proofs.YtiopaokappbelaaGreat
set_option linter.unusedVariables false
set_option linter.unusedSimpArgs false
open Go.RowKit
/-- A value in its box. -/
def VBx (W : World) (h : Nat) (k b : Int) (s : ByteArray) : Prop := W.cell? ⟨h, 0, none⟩ = some (.int .u8 k) ∧ W.cell? ⟨h, 1, none⟩ = some (.int .u64 b) ∧ W.cell? ⟨h, 2, none⟩ = some (.string s)
theorem VBx.next {W w' : World} {h : Nat} {k b : Int} {s : ByteArray} (x : VBx W h k b s) (hb : Below W.heap.size W w') : VBx w' h k b s := by
  obtain ⟨a0, a1, a2⟩ := x
  have l := block_lt_of_cell a0
  exact ⟨(hb.cell (p := ⟨h, 0, none⟩) l).trans a0, (hb.cell (p := ⟨h, 1, none⟩) l).trans a1, (hb.cell (p := ⟨h, 2, none⟩) l).trans a2⟩
/-- A report that tells nothing, in its box. -/
def RBx (W : World) (h : Nat) : Prop := ∀ (i : Nat) (v : Value), zr[i]? = some v → W.cell? ⟨h, i, none⟩ = some v
theorem RBx.next {W w' : World} {h : Nat} (x : RBx W h) (hb : Below W.heap.size W w') : RBx w' h :=
  fun i v hi => (hb.cell (p := ⟨h, i, none⟩) (block_lt_of_cell (x i v hi))).trans (x i v hi)
theorem RBx.new (W : World) (u : TypeId) : RBx (W.alloc (.cells zr u)) W.heap.size := by
  intro i v hi
  have h7 : i < 7 := by
    rcases Nat.lt_or_ge i 7 with h | h
    · exact h
    · rw [Array.getElem?_eq_none (by simpa using h)] at hi; cases hi
  rcases (show i = 0 ∨ i = 1 ∨ i = 2 ∨ i = 3 ∨ i = 4 ∨ i = 5 ∨ i = 6 by omega) with rfl | rfl | rfl | rfl | rfl | rfl | rfl
  all_goals
    simp at hi
    subst hi
    simp
theorem two_bel {w w1 w2 : World} {c1 c2 : Array Value} {u v : TypeId} (h : Below w.heap.size w w1) (hb : Below ((w1.alloc (.cells c1 u)).alloc (.cells c2 v)).heap.size ((w1.alloc (.cells c1 u)).alloc (.cells c2 v)) w2) : Below w.heap.size w w2 := by
  have := h.size
  exact ((h.alloc h.size _).alloc (by simp; omega) _).trans (hb.mono (by simp; omega))
theorem two_bel' {w w1 : World} {c1 c2 : Array Value} {u v : TypeId} (h : Below w.heap.size w w1) : Below w.heap.size w ((w1.alloc (.cells c1 u)).alloc (.cells c2 v)) := by
  have := h.size
  exact (h.alloc h.size _).alloc (by simp; omega) _
theorem al_bel (w : World) (o : Obj) : Below w.heap.size w (w.alloc o) := (Below.refl _ _).alloc (Nat.le_refl _) _
set_option maxHeartbeats 4000000 in
theorem nobody_of (p bs : Value) (i n k b : Int) (s : ByteArray) (wm : Bool) (w : World) (hp : PnN w p) : Calls Tryz.prog 4 #[p, .int .i64 i, .int .i64 n, .agg #[.int .u8 k, .int .u64 b, .string s], bs, .bool wm] w fun e w' => e = .returned (.bool true) ∧ Below w.heap.size w w' := by
  go_enter Tryz.func4, Tryz.ntmps4
  go_wp2_with fail
  refine (PanelEntry_no p _ (hp.below (al_bel _ _)) _ _).mono ?_
  rintro e w1 ⟨rfl, hb⟩
  have B1 : Hid (Below w.heap.size w w1) := (al_bel _ _).trans (hb.mono (by simp))
  have V1 : Hid (VBx w1 w.heap.size k b s) := VBx.next ⟨by simp, by simp, by simp⟩ hb
  clear hb
  go_wp2_with fail
  refine (PanelLook_no p _ (hp.below (two_bel' B1.out)) _).mono ?_
  rintro e w2 ⟨rfl, hb⟩
  have B2 : Hid (Below w.heap.size w w2) := two_bel B1.out hb
  have V2 : Hid (VBx w2 w.heap.size k b s) := ((V1.out.next (al_bel _ _)).next (al_bel _ _)).next hb
  have R2 : Hid (RBx w2 w1.heap.size) := ((RBx.new w1 _).next (al_bel _ _)).next hb
  clear hb B1 V1
  have r0 := R2.out 0 _ rfl
  have r1 := R2.out 1 _ rfl
  have r2 := R2.out 2 _ rfl
  have r3 := R2.out 3 _ rfl
  have r4 := R2.out 4 _ rfl
  have r5 := R2.out 5 _ rfl
  have r6 := R2.out 6 _ rfl
  go_wp2_with fail
  refine (law_same _).mono ?_
  rintro e w3 ⟨rfl, hb⟩
  have B3 : Hid (Below w.heap.size w w3) := B2.out.trans (hb.mono B2.out.size)
  have V3 : Hid (VBx w3 w.heap.size k b s) := V2.out.next hb
  clear hb B2 V2 R2 r0 r1 r2 r3 r4 r5 r6
  go_wp2_with fail
  refine (PanelStart_no p _ (hp.below B3.out)).mono ?_
  rintro e w4 ⟨rfl, hb⟩
  have B4 : Hid (Below w.heap.size w w4) := B3.out.trans (hb.mono B3.out.size)
  have V4 : Hid (VBx w4 w.heap.size k b s) := V3.out.next hb
  clear V3
  clear hb B3
  go_wp2_with fail
  refine (PanelStop_no p _ (hp.below B4.out)).mono ?_
  rintro e w5 ⟨rfl, hb⟩
  have B5 : Hid (Below w.heap.size w w5) := B4.out.trans (hb.mono B4.out.size)
  have V5 : Hid (VBx w5 w.heap.size k b s) := V4.out.next hb
  clear V4
  clear hb B4
  go_wp2_with fail
  refine (PanelReset_no p _ (hp.below B5.out) _).mono ?_
  rintro e w6 ⟨rfl, hb⟩
  have B6 : Hid (Below w.heap.size w w6) := B5.out.trans (hb.mono B5.out.size)
  have V6 : Hid (VBx w6 w.heap.size k b s) := V5.out.next hb
  clear V5
  clear hb B5
  obtain ⟨v0, v1, v2⟩ := V6.out
  go_wp2_with fail
  refine (PanelForce_no p _ (hp.below B6.out) _ _ _ _).mono ?_
  rintro e w7 ⟨rfl, hb⟩
  have B7 : Hid (Below w.heap.size w w7) := B6.out.trans (hb.mono B6.out.size)
  clear v0 v1 v2 V6
  clear hb B6
  go_wp2_with fail
  refine (PanelFree_no p _ (hp.below B7.out) _).mono ?_
  rintro e w8 ⟨rfl, hb⟩
  have B8 : Hid (Below w.heap.size w w8) := B7.out.trans (hb.mono B7.out.size)
  clear hb B7
  go_wp2_with fail
  refine (PanelLoad_no p _ (hp.below B8.out) _).mono ?_
  rintro e w9 ⟨rfl, hb⟩
  have B9 : Hid (Below w.heap.size w w9) := B8.out.trans (hb.mono B8.out.size)
  clear hb B8
  go_wp2_with fail
  refine (PanelForced_no p _ (hp.below B9.out)).mono ?_
  rintro e w10 ⟨rfl, hb⟩
  have B10 : Hid (Below w.heap.size w w10) := B9.out.trans (hb.mono B9.out.size)
  clear hb B9
  go_wp2_with fail
  refine (PanelChanged_no p _ (hp.below B10.out)).mono ?_
  rintro e w11 ⟨rfl, hb⟩
  have B11 : Hid (Below w.heap.size w w11) := B10.out.trans (hb.mono B10.out.size)
  clear hb B10
  go_wp2_with fail
  refine (PanelSave_no p _ (hp.below B11.out)).mono ?_
  rintro e w12 ⟨rfl, hb⟩
  have B12 : Hid (Below w.heap.size w w12) := B11.out.trans (hb.mono B11.out.size)
  clear hb B11
  go_wp2
  go_ret
  exact ⟨rfl, B12.out⟩
set_option maxHeartbeats 4000000 in
theorem nopair_of (p : Value) (i n : Int) (w : World) (hp : PnN w p) : Calls Tryz.prog 5 #[p, .int .i64 i, .int .i64 n] w fun e w' => e = .returned (.bool true) ∧ Below w.heap.size w w' := by
  go_enter Tryz.func5, Tryz.ntmps5
  go_wp2_with fail
  refine (PairEntry_no p _ hp _ _).mono ?_
  rintro e w1 ⟨rfl, hb⟩
  have B1 : Hid (Below w.heap.size w w1) := hb
  clear hb
  go_wp2_with fail
  refine (law_same _).mono ?_
  rintro e w2 ⟨rfl, hb⟩
  have B2 : Hid (Below w.heap.size w w2) := (B1.out.alloc B1.out.size _).trans (hb.mono (by have := B1.out.size; simp; omega))
  clear hb B1
  go_wp2_with fail
  refine (PairStart_no p _ (hp.below B2.out)).mono ?_
  rintro e w3 ⟨rfl, hb⟩
  have B3 : Hid (Below w.heap.size w w3) := B2.out.trans (hb.mono B2.out.size)
  clear hb B2
  go_wp2_with fail
  refine (PairDown_no p _ (hp.below B3.out) _).mono ?_
  rintro e w4 ⟨rfl, hb⟩
  have B4 : Hid (Below w.heap.size w w4) := B3.out.trans (hb.mono B3.out.size)
  clear hb B3
  go_wp2_with fail
  refine (PairFollow_no p _ (hp.below B4.out) _).mono ?_
  rintro e w5 ⟨rfl, hb⟩
  have B5 : Hid (Below w.heap.size w w5) := B4.out.trans (hb.mono B4.out.size)
  clear hb B4
  go_wp2_with fail
  refine (PairLeads_no p _ (hp.below B5.out)).mono ?_
  rintro e w6 ⟨rfl, hb⟩
  have B6 : Hid (Below w.heap.size w w6) := B5.out.trans (hb.mono B5.out.size)
  clear hb B5
  go_wp2_with fail
  refine (PairCells_no p _ (hp.below B6.out) _).mono ?_
  rintro e w7 ⟨rfl, hb⟩
  have B7 : Hid (Below w.heap.size w w7) := B6.out.trans (hb.mono B6.out.size)
  clear hb B6
  go_wp2
  go_ret
  exact ⟨rfl, B7.out⟩
end Go.Proofs.YtiopaokappbelaaGreat
