/- The walk of SfcSames; no statement of the seat is proved here. -/
import Derived.Test.YtcoeinfopfcekaaSfG
import Derived.Test.YtcoeinfopfcekaaSfJ
import Derived.Test.YtcoeinfopfcekaaSfM
import Derived.Test.YtcoeinfopfcekaaSfN
import Derived.Test.YtcoeinfopfcekaaTwA
namespace Go.Proofs.Ytcoeinfopfcekaa
set_option linter.unusedVariables false
open Go.RowKit
/-- A chart as a value, its parts in S. -/
def ChV (d : Nat) (m : ChR) (S : Nat → Prop) (w : World) (v : Value) : Prop := ∃ y1 c1 y2 c2 y3 c3, v = .agg #[.slice y1 m.ss.length c1, .slice y2 m.ts.length c2, .slice y3 m.ac.length c3] ∧ ChQ S d w m y1 y2 y3
theorem keptCh (d : Nat) (m : ChR) : KeptV (ChV d m) where
  fr := fun ⟨y1, c1, y2, c2, y3, c3, e, h⟩ k => ⟨y1, c1, y2, c2, y3, c3, e, h.fr k⟩
  sub := fun hST ⟨y1, c1, y2, c2, y3, c3, e, h⟩ => ⟨y1, c1, y2, c2, y3, c3, e, h.sub hST⟩
theorem ChV.rows {d : Nat} {m : ChR} {S : Nat → Prop} {w : World} {y1 y2 y3 : Option Addr} {c1 c2 c3 : Nat} (h : ChV d m S w (.agg #[.slice y1 m.ss.length c1, .slice y2 m.ts.length c2, .slice y3 m.ac.length c3])) : ChQ S d w m y1 y2 y3 := by
  obtain ⟨z1, e1, z2, e2, z3, e3, e, hq⟩ := h
  simp only [Value.agg.injEq, Array.mk.injEq, List.cons.injEq, Value.slice.injEq, true_and, and_true] at e
  obtain ⟨⟨rfl, _⟩, ⟨rfl, _⟩, rfl, _⟩ := e
  exact hq
theorem cells3C {V : World} {g : Nat} {a b c : Value} {T : TypeId} {f : Nat × Nat} (h : V.heap[g]? = some (.cells #[a, b, c] T f)) : V.cell? ⟨g, 0, none⟩ = some a ∧ V.cell? ⟨g, 1, none⟩ = some b ∧ V.cell? ⟨g, 2, none⟩ = some c :=
  ⟨by simp [World.cell?, h], by simp [World.cell?, h], by simp [World.cell?, h]⟩
set_option maxRecDepth 1000000 in
set_option maxHeartbeats 16000000 in
theorem sfc_walk (d : Nat) (hd : d + 2 ≤ 131072) (m m' : ChR) (x1 x2 x3 y1 y2 y3 : Option Addr) (c1 c2 c3 d1 d2 d3 : Nat) (w : World) (ha : ChQ (fun b => b < w.heap.size) d w m x1 x2 x3) (hb : ChQ (fun b => b < w.heap.size) d w m' y1 y2 y3) :
    Calls Try.prog 3 #[.agg #[.slice x1 m.ss.length c1, .slice x2 m.ts.length c2, .slice x3 m.ac.length c3], .agg #[.slice y1 m'.ss.length d1, .slice y2 m'.ts.length d2, .slice y3 m'.ac.length d3]] w fun e w' => e = .returned (.bool true) ∧ Below w.heap.size w w' := by
  have HA : Hid (ChQ (fun b => b < w.heap.size) d w m x1 x2 x3) := ha
  have HB : Hid (ChQ (fun b => b < w.heap.size) d w m' y1 y2 y3) := hb
  have I1 : Hid (∀ W, Below w.heap.size w W → Calls Try.prog 4 #[.agg #[.slice x1 m.ss.length c1, .slice x2 m.ts.length c2, .slice x3 m.ac.length c3]] W fun e w' => (∃ y1 c1 y2 c2 y3 c3, e = .returned (.agg #[.slice y1 m.ss.length c1, .slice y2 m.ts.length c2, .slice y3 m.ac.length c3]) ∧ ChQ (Fresh W.heap.size w'.heap.size) d w' m y1 y2 y3) ∧ Below W.heap.size W w') := fun W h => Chart_of d m _ _ _ _ _ _ W (ha.on h)
  have I2 : Hid (∀ W, Below w.heap.size w W → Calls Try.prog 4 #[.agg #[.slice y1 m'.ss.length d1, .slice y2 m'.ts.length d2, .slice y3 m'.ac.length d3]] W fun e w' => (∃ y1 c1 y2 c2 y3 c3, e = .returned (.agg #[.slice y1 m'.ss.length c1, .slice y2 m'.ts.length c2, .slice y3 m'.ac.length c3]) ∧ ChQ (Fresh W.heap.size w'.heap.size) d w' m' y1 y2 y3) ∧ Below W.heap.size W w') := fun W h => Chart_of d m' _ _ _ _ _ _ W (hb.on h)
  clear ha hb
  obtain ⟨AW, eW⟩ : ∃ AW, AW = (w.alloc (.cells #[.slice x1 m.ss.length c1, .slice x2 m.ts.length c2, .slice x3 m.ac.length c3] 26 (0, 0))).alloc (.cells #[.slice y1 m'.ss.length d1, .slice y2 m'.ts.length d2, .slice y3 m'.ac.length d3] 26 (0, 0)) := ⟨_, rfl⟩
  have AX : Hid (AW.heap[w.heap.size]? = some (.cells #[.slice x1 m.ss.length c1, .slice x2 m.ts.length c2, .slice x3 m.ac.length c3] 26 (0, 0))) := by rw [eW]; exact (two_atC w _ _).1
  have AY : Hid (AW.heap[w.heap.size + 1]? = some (.cells #[.slice y1 m'.ss.length d1, .slice y2 m'.ts.length d2, .slice y3 m'.ac.length d3] 26 (0, 0))) := by rw [eW]; exact (two_atC w _ _).2
  have AB : Hid (Below w.heap.size w AW) := by rw [eW]; exact two_b w _ _
  go_enter Try.func3, Try.ntmps3
  go_wp2_with fail
  rw [← eW]
  clear eW
  go_cut [5, 6] (fun s5 s6 wx => ∃ g4 g5, s5 = .pointer (some ⟨g4, 0, none⟩) ∧ s6 = .pointer (some ⟨g5, 0, none⟩) ∧ ∃ a1 p1 a2 p2 a3 p3 b1 q1 b2 q2 b3 q3, Td w w.heap.size (.cells #[.slice x1 m.ss.length c1, .slice x2 m.ts.length c2, .slice x3 m.ac.length c3] 26 (0, 0)) (.cells #[.slice y1 m'.ss.length d1, .slice y2 m'.ts.length d2, .slice y3 m'.ac.length d3] 26 (0, 0)) (ChV d m) (ChV d m') (.agg #[.slice a1 m.ss.length p1, .slice a2 m.ts.length p2, .slice a3 m.ac.length p3]) (.agg #[.slice b1 m'.ss.length q1, .slice b2 m'.ts.length q2, .slice b3 m'.ac.length q3]) g4 g5 (.cells #[.slice a1 m.ss.length p1, .slice a2 m.ts.length p2, .slice a3 m.ac.length p3] 26 (0, 0)) (.cells #[.slice b1 m'.ss.length q1, .slice b2 m'.ts.length q2, .slice b3 m'.ac.length q3] 26 (0, 0)) wx)
  case first =>
    refine wp_region_held_drew (S := fun V => V.heap[w.heap.size]? = some (.cells #[.slice x1 m.ss.length c1, .slice x2 m.ts.length c2, .slice x3 m.ac.length c3] 26 (0, 0)) ∧ V.heap[w.heap.size + 1]? = some (.cells #[.slice y1 m'.ss.length d1, .slice y2 m'.ts.length d2, .slice y3 m'.ac.length d3] 26 (0, 0))) (by kernel_rfl) ⟨AX.out, AY.out⟩ (fun hHeld => ?_)
    refine wpAnyH_take (i := 0) (v := .agg #[.slice x1 m.ss.length c1, .slice x2 m.ts.length c2, .slice x3 m.ac.length c3]) rfl (by kernel_rfl) (by kernel_rfl) (by kernel_rfl) (fun _ _ _ h => h) (Or.inl ⟨by rfl, fun V hV => ?_⟩) hHeld ?_
    · obtain ⟨f0, f1, f2⟩ := cells3C hV.1
      go_simp
    simp only [Act.put, List.setIfInBounds_toArray]
    refine wpAnyH_take (i := 2) (v := .agg #[.slice y1 m'.ss.length d1, .slice y2 m'.ts.length d2, .slice y3 m'.ac.length d3]) rfl (by kernel_rfl) (by kernel_rfl) (by kernel_rfl) (fun _ _ _ h => h) (Or.inl ⟨by rfl, fun V hV => ?_⟩) hHeld ?_
    · obtain ⟨f0, f1, f2⟩ := cells3C hV.2
      go_simp
    simp only [Act.put]
    have t0 : Tw w w.heap.size (.cells #[.slice x1 m.ss.length c1, .slice x2 m.ts.length c2, .slice x3 m.ac.length c3] 26 (0, 0)) (.cells #[.slice y1 m'.ss.length d1, .slice y2 m'.ts.length d2, .slice y3 m'.ac.length d3] 26 (0, 0)) (.cells #[.slice none 0 0, .slice none 0 0, .slice none 0 0] 26 (0, 0)) (ChV d m) (ChV d m') none none none none AW.drew := ⟨AX.out, AY.out, AB.out.drew, fun g e => (by cases e), fun g e => (by cases e), fun g e => (by cases e), fun v e => (by cases e), fun v e => by cases e⟩
    obtain ⟨W0, eW⟩ : ∃ W, W = AW.drew := ⟨_, rfl⟩
    rw [← eW] at t0 hHeld ⊢
    clear eW
    refine wpAnyH_ready (rs := [1, 4, 5]) (by kernel_rfl) (by simp) ?_
    refine AllReadyH.cons (o := _) rfl (fun K hK => ?_) (AllReadyH.cons (o := _) rfl (fun K hK => ?_) (AllReadyH.cons (o := _) rfl (fun K hK => ?_) (AllReadyH.nil)))
    · go_simp
      refine (I1.out _ t0.hb).mono ?_
      rintro e W1 ⟨⟨a1, p1, a2, p2, a3, p3, rfl, hq⟩, hb⟩
      have t1 := t0.call1 (keptCh d m) (keptCh d m') hb ⟨a1, p1, a2, p2, a3, p3, rfl, hq⟩
      refine hK.out _ _ ⟨t1.hx, t1.hy⟩ (fun hHeld => ?_)
      clear hK K hq hb
      refine wpAnyH_ready (rs := [3, 4, 5]) (by kernel_rfl) (by simp) ?_
      refine AllReadyH.cons (o := _) rfl (fun K hK => ?_) (AllReadyH.cons (o := _) rfl (fun K hK => ?_) (AllReadyH.cons (o := _) rfl (fun K hK => ?_) (AllReadyH.nil)))
      · go_simp
        refine (I2.out _ t1.hb).mono ?_
        rintro e W2 ⟨⟨b1, q1, b2, q2, b3, q3, rfl, hq⟩, hb⟩
        have t2 := t1.call2 (keptCh d m) (keptCh d m') hb ⟨b1, q1, b2, q2, b3, q3, rfl, hq⟩
        refine hK.out _ _ ⟨t2.hx, t2.hy⟩ (fun hHeld => ?_)
        clear hK K hq hb
        refine wpAnyH_ready (rs := [4, 5]) (by kernel_rfl) (by simp) ?_
        refine AllReadyH.cons (o := _) rfl (fun K hK => ?_) (AllReadyH.cons (o := _) rfl (fun K hK => ?_) (AllReadyH.nil))
        · go_simp
          have t3 := t2.al4 (keptCh d m) (keptCh d m')
          obtain ⟨W3, eW⟩ : ∃ W, W = W2.alloc (.cells #[.slice none 0 0, .slice none 0 0, .slice none 0 0] 26 (0, 0)) := ⟨_, rfl⟩
          rw [← eW] at t3 ⊢
          clear eW
          refine hK.out _ _ ⟨t3.hx, t3.hy⟩ (fun hHeld => ?_)
          clear hK K
          refine wpAnyH_ready (rs := [5]) (by kernel_rfl) (by simp) ?_
          refine AllReadyH.cons (o := _) rfl (fun K hK => ?_) (AllReadyH.nil)
          go_simp
          have t4 := t3.al5 (keptCh d m) (keptCh d m')
          obtain ⟨W4, eW⟩ : ∃ W, W = W3.alloc (.cells #[.slice none 0 0, .slice none 0 0, .slice none 0 0] 26 (0, 0)) := ⟨_, rfl⟩
          rw [← eW] at t4 ⊢
          clear eW
          refine hK.out _ _ ⟨t4.hx, t4.hy⟩ (fun hHeld => ?_)
          clear hK K
          have fin := Tw.done (keptCh d m) (keptCh d m') (cs1 := #[.slice a1 m.ss.length p1, .slice a2 m.ts.length p2, .slice a3 m.ac.length p3]) (cs2 := #[.slice b1 m'.ss.length q1, .slice b2 m'.ts.length q2, .slice b3 m'.ac.length q3]) t4
          have l4 := (t4.h4 _ rfl).1
          refine wpAnyH_ready (rs := [6]) (by kernel_rfl) (by simp) ?_
          refine AllReadyH.cons (o := _) rfl (fun K hK => ?_) (AllReadyH.nil)
          rw [if_pos (by rfl)]
          refine wp_store_row 26 _ _ rfl (W2.heap.size) _ rfl rfl 26 _ (t4.h4 _ rfl).2 ch_info rfl (by kernel_rfl) ?_
          refine hK.out _ _ ⟨(setRow_other _ _ _ _ (by omega)).trans t4.hx, (setRow_other _ _ _ _ (by omega)).trans t4.hy⟩ (fun hHeld => ?_)
          clear hK K
          rw [put_none (by rfl)]
          refine wpAnyH_ready (rs := [7]) (by kernel_rfl) (by simp) ?_
          refine AllReadyH.cons (o := _) rfl (fun K hK => ?_) (AllReadyH.nil)
          rw [if_pos (by rfl)]
          refine wp_store_row 26 _ _ rfl (W3.heap.size) _ rfl rfl 26 _ fin.1 ch_info rfl (by kernel_rfl) ?_
          refine hK.out _ _ ⟨fin.2.hx, fin.2.hy⟩ (fun hHeld => ?_)
          clear hK K
          refine wpAnyH_done (by kernel_rfl) ?_ _
          rw [put_none (by rfl)]
          refine Met.intro ?_
          go_step
          go_meet
          case rel => exact ⟨_, _, rfl, rfl, a1, p1, a2, p2, a3, p3, b1, q1, b2, q2, b3, q3, fin.2⟩
        · go_simp
          have t5 := t2.al5 (keptCh d m) (keptCh d m')
          obtain ⟨W5, eW⟩ : ∃ W, W = W2.alloc (.cells #[.slice none 0 0, .slice none 0 0, .slice none 0 0] 26 (0, 0)) := ⟨_, rfl⟩
          rw [← eW] at t5 ⊢
          clear eW
          refine hK.out _ _ ⟨t5.hx, t5.hy⟩ (fun hHeld => ?_)
          clear hK K
          refine wpAnyH_ready (rs := [4]) (by kernel_rfl) (by simp) ?_
          refine AllReadyH.cons (o := _) rfl (fun K hK => ?_) (AllReadyH.nil)
          go_simp
          have t6 := t5.al4 (keptCh d m) (keptCh d m')
          obtain ⟨W6, eW⟩ : ∃ W, W = W5.alloc (.cells #[.slice none 0 0, .slice none 0 0, .slice none 0 0] 26 (0, 0)) := ⟨_, rfl⟩
          rw [← eW] at t6 ⊢
          clear eW
          refine hK.out _ _ ⟨t6.hx, t6.hy⟩ (fun hHeld => ?_)
          clear hK K
          have fin := Tw.done (keptCh d m) (keptCh d m') (cs1 := #[.slice a1 m.ss.length p1, .slice a2 m.ts.length p2, .slice a3 m.ac.length p3]) (cs2 := #[.slice b1 m'.ss.length q1, .slice b2 m'.ts.length q2, .slice b3 m'.ac.length q3]) t6
          have l4 := (t6.h4 _ rfl).1
          refine wpAnyH_ready (rs := [6]) (by kernel_rfl) (by simp) ?_
          refine AllReadyH.cons (o := _) rfl (fun K hK => ?_) (AllReadyH.nil)
          rw [if_pos (by rfl)]
          refine wp_store_row 26 _ _ rfl (W5.heap.size) _ rfl rfl 26 _ (t6.h4 _ rfl).2 ch_info rfl (by kernel_rfl) ?_
          refine hK.out _ _ ⟨(setRow_other _ _ _ _ (by omega)).trans t6.hx, (setRow_other _ _ _ _ (by omega)).trans t6.hy⟩ (fun hHeld => ?_)
          clear hK K
          rw [put_none (by rfl)]
          refine wpAnyH_ready (rs := [7]) (by kernel_rfl) (by simp) ?_
          refine AllReadyH.cons (o := _) rfl (fun K hK => ?_) (AllReadyH.nil)
          rw [if_pos (by rfl)]
          refine wp_store_row 26 _ _ rfl (W2.heap.size) _ rfl rfl 26 _ fin.1 ch_info rfl (by kernel_rfl) ?_
          refine hK.out _ _ ⟨fin.2.hx, fin.2.hy⟩ (fun hHeld => ?_)
          clear hK K
          refine wpAnyH_done (by kernel_rfl) ?_ _
          rw [put_none (by rfl)]
          refine Met.intro ?_
          go_step
          go_meet
          case rel => exact ⟨_, _, rfl, rfl, a1, p1, a2, p2, a3, p3, b1, q1, b2, q2, b3, q3, fin.2⟩
      · go_simp
        have t7 := t1.al4 (keptCh d m) (keptCh d m')
        obtain ⟨W7, eW⟩ : ∃ W, W = W1.alloc (.cells #[.slice none 0 0, .slice none 0 0, .slice none 0 0] 26 (0, 0)) := ⟨_, rfl⟩
        rw [← eW] at t7 ⊢
        clear eW
        refine hK.out _ _ ⟨t7.hx, t7.hy⟩ (fun hHeld => ?_)
        clear hK K
        refine wpAnyH_ready (rs := [3, 5]) (by kernel_rfl) (by simp) ?_
        refine AllReadyH.cons (o := _) rfl (fun K hK => ?_) (AllReadyH.cons (o := _) rfl (fun K hK => ?_) (AllReadyH.nil))
        · go_simp
          refine (I2.out _ t7.hb).mono ?_
          rintro e W8 ⟨⟨b1, q1, b2, q2, b3, q3, rfl, hq⟩, hb⟩
          have t8 := t7.call2 (keptCh d m) (keptCh d m') hb ⟨b1, q1, b2, q2, b3, q3, rfl, hq⟩
          refine hK.out _ _ ⟨t8.hx, t8.hy⟩ (fun hHeld => ?_)
          clear hK K hq hb
          refine wpAnyH_ready (rs := [5]) (by kernel_rfl) (by simp) ?_
          refine AllReadyH.cons (o := _) rfl (fun K hK => ?_) (AllReadyH.nil)
          go_simp
          have t9 := t8.al5 (keptCh d m) (keptCh d m')
          obtain ⟨W9, eW⟩ : ∃ W, W = W8.alloc (.cells #[.slice none 0 0, .slice none 0 0, .slice none 0 0] 26 (0, 0)) := ⟨_, rfl⟩
          rw [← eW] at t9 ⊢
          clear eW
          refine hK.out _ _ ⟨t9.hx, t9.hy⟩ (fun hHeld => ?_)
          clear hK K
          have fin := Tw.done (keptCh d m) (keptCh d m') (cs1 := #[.slice a1 m.ss.length p1, .slice a2 m.ts.length p2, .slice a3 m.ac.length p3]) (cs2 := #[.slice b1 m'.ss.length q1, .slice b2 m'.ts.length q2, .slice b3 m'.ac.length q3]) t9
          have l4 := (t9.h4 _ rfl).1
          refine wpAnyH_ready (rs := [6]) (by kernel_rfl) (by simp) ?_
          refine AllReadyH.cons (o := _) rfl (fun K hK => ?_) (AllReadyH.nil)
          rw [if_pos (by rfl)]
          refine wp_store_row 26 _ _ rfl (W1.heap.size) _ rfl rfl 26 _ (t9.h4 _ rfl).2 ch_info rfl (by kernel_rfl) ?_
          refine hK.out _ _ ⟨(setRow_other _ _ _ _ (by omega)).trans t9.hx, (setRow_other _ _ _ _ (by omega)).trans t9.hy⟩ (fun hHeld => ?_)
          clear hK K
          rw [put_none (by rfl)]
          refine wpAnyH_ready (rs := [7]) (by kernel_rfl) (by simp) ?_
          refine AllReadyH.cons (o := _) rfl (fun K hK => ?_) (AllReadyH.nil)
          rw [if_pos (by rfl)]
          refine wp_store_row 26 _ _ rfl (W8.heap.size) _ rfl rfl 26 _ fin.1 ch_info rfl (by kernel_rfl) ?_
          refine hK.out _ _ ⟨fin.2.hx, fin.2.hy⟩ (fun hHeld => ?_)
          clear hK K
          refine wpAnyH_done (by kernel_rfl) ?_ _
          rw [put_none (by rfl)]
          refine Met.intro ?_
          go_step
          go_meet
          case rel => exact ⟨_, _, rfl, rfl, a1, p1, a2, p2, a3, p3, b1, q1, b2, q2, b3, q3, fin.2⟩
        · go_simp
          have t10 := t7.al5 (keptCh d m) (keptCh d m')
          obtain ⟨W10, eW⟩ : ∃ W, W = W7.alloc (.cells #[.slice none 0 0, .slice none 0 0, .slice none 0 0] 26 (0, 0)) := ⟨_, rfl⟩
          rw [← eW] at t10 ⊢
          clear eW
          refine hK.out _ _ ⟨t10.hx, t10.hy⟩ (fun hHeld => ?_)
          clear hK K
          refine wpAnyH_ready (rs := [3]) (by kernel_rfl) (by simp) ?_
          refine AllReadyH.cons (o := _) rfl (fun K hK => ?_) (AllReadyH.nil)
          go_simp
          refine (I2.out _ t10.hb).mono ?_
          rintro e W11 ⟨⟨b1, q1, b2, q2, b3, q3, rfl, hq⟩, hb⟩
          have t11 := t10.call2 (keptCh d m) (keptCh d m') hb ⟨b1, q1, b2, q2, b3, q3, rfl, hq⟩
          refine hK.out _ _ ⟨t11.hx, t11.hy⟩ (fun hHeld => ?_)
          clear hK K hq hb
          have fin := Tw.done (keptCh d m) (keptCh d m') (cs1 := #[.slice a1 m.ss.length p1, .slice a2 m.ts.length p2, .slice a3 m.ac.length p3]) (cs2 := #[.slice b1 m'.ss.length q1, .slice b2 m'.ts.length q2, .slice b3 m'.ac.length q3]) t11
          have l4 := (t11.h4 _ rfl).1
          refine wpAnyH_ready (rs := [6]) (by kernel_rfl) (by simp) ?_
          refine AllReadyH.cons (o := _) rfl (fun K hK => ?_) (AllReadyH.nil)
          rw [if_pos (by rfl)]
          refine wp_store_row 26 _ _ rfl (W1.heap.size) _ rfl rfl 26 _ (t11.h4 _ rfl).2 ch_info rfl (by kernel_rfl) ?_
          refine hK.out _ _ ⟨(setRow_other _ _ _ _ (by omega)).trans t11.hx, (setRow_other _ _ _ _ (by omega)).trans t11.hy⟩ (fun hHeld => ?_)
          clear hK K
          rw [put_none (by rfl)]
          refine wpAnyH_ready (rs := [7]) (by kernel_rfl) (by simp) ?_
          refine AllReadyH.cons (o := _) rfl (fun K hK => ?_) (AllReadyH.nil)
          rw [if_pos (by rfl)]
          refine wp_store_row 26 _ _ rfl (W7.heap.size) _ rfl rfl 26 _ fin.1 ch_info rfl (by kernel_rfl) ?_
          refine hK.out _ _ ⟨fin.2.hx, fin.2.hy⟩ (fun hHeld => ?_)
          clear hK K
          refine wpAnyH_done (by kernel_rfl) ?_ _
          rw [put_none (by rfl)]
          refine Met.intro ?_
          go_step
          go_meet
          case rel => exact ⟨_, _, rfl, rfl, a1, p1, a2, p2, a3, p3, b1, q1, b2, q2, b3, q3, fin.2⟩
      · go_simp
        have t12 := t1.al5 (keptCh d m) (keptCh d m')
        obtain ⟨W12, eW⟩ : ∃ W, W = W1.alloc (.cells #[.slice none 0 0, .slice none 0 0, .slice none 0 0] 26 (0, 0)) := ⟨_, rfl⟩
        rw [← eW] at t12 ⊢
        clear eW
        refine hK.out _ _ ⟨t12.hx, t12.hy⟩ (fun hHeld => ?_)
        clear hK K
        refine wpAnyH_ready (rs := [3, 4]) (by kernel_rfl) (by simp) ?_
        refine AllReadyH.cons (o := _) rfl (fun K hK => ?_) (AllReadyH.cons (o := _) rfl (fun K hK => ?_) (AllReadyH.nil))
        · go_simp
          refine (I2.out _ t12.hb).mono ?_
          rintro e W13 ⟨⟨b1, q1, b2, q2, b3, q3, rfl, hq⟩, hb⟩
          have t13 := t12.call2 (keptCh d m) (keptCh d m') hb ⟨b1, q1, b2, q2, b3, q3, rfl, hq⟩
          refine hK.out _ _ ⟨t13.hx, t13.hy⟩ (fun hHeld => ?_)
          clear hK K hq hb
          refine wpAnyH_ready (rs := [4]) (by kernel_rfl) (by simp) ?_
          refine AllReadyH.cons (o := _) rfl (fun K hK => ?_) (AllReadyH.nil)
          go_simp
          have t14 := t13.al4 (keptCh d m) (keptCh d m')
          obtain ⟨W14, eW⟩ : ∃ W, W = W13.alloc (.cells #[.slice none 0 0, .slice none 0 0, .slice none 0 0] 26 (0, 0)) := ⟨_, rfl⟩
          rw [← eW] at t14 ⊢
          clear eW
          refine hK.out _ _ ⟨t14.hx, t14.hy⟩ (fun hHeld => ?_)
          clear hK K
          have fin := Tw.done (keptCh d m) (keptCh d m') (cs1 := #[.slice a1 m.ss.length p1, .slice a2 m.ts.length p2, .slice a3 m.ac.length p3]) (cs2 := #[.slice b1 m'.ss.length q1, .slice b2 m'.ts.length q2, .slice b3 m'.ac.length q3]) t14
          have l4 := (t14.h4 _ rfl).1
          refine wpAnyH_ready (rs := [6]) (by kernel_rfl) (by simp) ?_
          refine AllReadyH.cons (o := _) rfl (fun K hK => ?_) (AllReadyH.nil)
          rw [if_pos (by rfl)]
          refine wp_store_row 26 _ _ rfl (W13.heap.size) _ rfl rfl 26 _ (t14.h4 _ rfl).2 ch_info rfl (by kernel_rfl) ?_
          refine hK.out _ _ ⟨(setRow_other _ _ _ _ (by omega)).trans t14.hx, (setRow_other _ _ _ _ (by omega)).trans t14.hy⟩ (fun hHeld => ?_)
          clear hK K
          rw [put_none (by rfl)]
          refine wpAnyH_ready (rs := [7]) (by kernel_rfl) (by simp) ?_
          refine AllReadyH.cons (o := _) rfl (fun K hK => ?_) (AllReadyH.nil)
          rw [if_pos (by rfl)]
          refine wp_store_row 26 _ _ rfl (W1.heap.size) _ rfl rfl 26 _ fin.1 ch_info rfl (by kernel_rfl) ?_
          refine hK.out _ _ ⟨fin.2.hx, fin.2.hy⟩ (fun hHeld => ?_)
          clear hK K
          refine wpAnyH_done (by kernel_rfl) ?_ _
          rw [put_none (by rfl)]
          refine Met.intro ?_
          go_step
          go_meet
          case rel => exact ⟨_, _, rfl, rfl, a1, p1, a2, p2, a3, p3, b1, q1, b2, q2, b3, q3, fin.2⟩
        · go_simp
          have t15 := t12.al4 (keptCh d m) (keptCh d m')
          obtain ⟨W15, eW⟩ : ∃ W, W = W12.alloc (.cells #[.slice none 0 0, .slice none 0 0, .slice none 0 0] 26 (0, 0)) := ⟨_, rfl⟩
          rw [← eW] at t15 ⊢
          clear eW
          refine hK.out _ _ ⟨t15.hx, t15.hy⟩ (fun hHeld => ?_)
          clear hK K
          refine wpAnyH_ready (rs := [3]) (by kernel_rfl) (by simp) ?_
          refine AllReadyH.cons (o := _) rfl (fun K hK => ?_) (AllReadyH.nil)
          go_simp
          refine (I2.out _ t15.hb).mono ?_
          rintro e W16 ⟨⟨b1, q1, b2, q2, b3, q3, rfl, hq⟩, hb⟩
          have t16 := t15.call2 (keptCh d m) (keptCh d m') hb ⟨b1, q1, b2, q2, b3, q3, rfl, hq⟩
          refine hK.out _ _ ⟨t16.hx, t16.hy⟩ (fun hHeld => ?_)
          clear hK K hq hb
          have fin := Tw.done (keptCh d m) (keptCh d m') (cs1 := #[.slice a1 m.ss.length p1, .slice a2 m.ts.length p2, .slice a3 m.ac.length p3]) (cs2 := #[.slice b1 m'.ss.length q1, .slice b2 m'.ts.length q2, .slice b3 m'.ac.length q3]) t16
          have l4 := (t16.h4 _ rfl).1
          refine wpAnyH_ready (rs := [6]) (by kernel_rfl) (by simp) ?_
          refine AllReadyH.cons (o := _) rfl (fun K hK => ?_) (AllReadyH.nil)
          rw [if_pos (by rfl)]
          refine wp_store_row 26 _ _ rfl (W12.heap.size) _ rfl rfl 26 _ (t16.h4 _ rfl).2 ch_info rfl (by kernel_rfl) ?_
          refine hK.out _ _ ⟨(setRow_other _ _ _ _ (by omega)).trans t16.hx, (setRow_other _ _ _ _ (by omega)).trans t16.hy⟩ (fun hHeld => ?_)
          clear hK K
          rw [put_none (by rfl)]
          refine wpAnyH_ready (rs := [7]) (by kernel_rfl) (by simp) ?_
          refine AllReadyH.cons (o := _) rfl (fun K hK => ?_) (AllReadyH.nil)
          rw [if_pos (by rfl)]
          refine wp_store_row 26 _ _ rfl (W1.heap.size) _ rfl rfl 26 _ fin.1 ch_info rfl (by kernel_rfl) ?_
          refine hK.out _ _ ⟨fin.2.hx, fin.2.hy⟩ (fun hHeld => ?_)
          clear hK K
          refine wpAnyH_done (by kernel_rfl) ?_ _
          rw [put_none (by rfl)]
          refine Met.intro ?_
          go_step
          go_meet
          case rel => exact ⟨_, _, rfl, rfl, a1, p1, a2, p2, a3, p3, b1, q1, b2, q2, b3, q3, fin.2⟩
    · go_simp
      have t17 := t0.al4 (keptCh d m) (keptCh d m')
      obtain ⟨W17, eW⟩ : ∃ W, W = W0.alloc (.cells #[.slice none 0 0, .slice none 0 0, .slice none 0 0] 26 (0, 0)) := ⟨_, rfl⟩
      rw [← eW] at t17 ⊢
      clear eW
      refine hK.out _ _ ⟨t17.hx, t17.hy⟩ (fun hHeld => ?_)
      clear hK K
      refine wpAnyH_ready (rs := [1, 5]) (by kernel_rfl) (by simp) ?_
      refine AllReadyH.cons (o := _) rfl (fun K hK => ?_) (AllReadyH.cons (o := _) rfl (fun K hK => ?_) (AllReadyH.nil))
      · go_simp
        refine (I1.out _ t17.hb).mono ?_
        rintro e W18 ⟨⟨a1, p1, a2, p2, a3, p3, rfl, hq⟩, hb⟩
        have t18 := t17.call1 (keptCh d m) (keptCh d m') hb ⟨a1, p1, a2, p2, a3, p3, rfl, hq⟩
        refine hK.out _ _ ⟨t18.hx, t18.hy⟩ (fun hHeld => ?_)
        clear hK K hq hb
        refine wpAnyH_ready (rs := [3, 5]) (by kernel_rfl) (by simp) ?_
        refine AllReadyH.cons (o := _) rfl (fun K hK => ?_) (AllReadyH.cons (o := _) rfl (fun K hK => ?_) (AllReadyH.nil))
        · go_simp
          refine (I2.out _ t18.hb).mono ?_
          rintro e W19 ⟨⟨b1, q1, b2, q2, b3, q3, rfl, hq⟩, hb⟩
          have t19 := t18.call2 (keptCh d m) (keptCh d m') hb ⟨b1, q1, b2, q2, b3, q3, rfl, hq⟩
          refine hK.out _ _ ⟨t19.hx, t19.hy⟩ (fun hHeld => ?_)
          clear hK K hq hb
          refine wpAnyH_ready (rs := [5]) (by kernel_rfl) (by simp) ?_
          refine AllReadyH.cons (o := _) rfl (fun K hK => ?_) (AllReadyH.nil)
          go_simp
          have t20 := t19.al5 (keptCh d m) (keptCh d m')
          obtain ⟨W20, eW⟩ : ∃ W, W = W19.alloc (.cells #[.slice none 0 0, .slice none 0 0, .slice none 0 0] 26 (0, 0)) := ⟨_, rfl⟩
          rw [← eW] at t20 ⊢
          clear eW
          refine hK.out _ _ ⟨t20.hx, t20.hy⟩ (fun hHeld => ?_)
          clear hK K
          have fin := Tw.done (keptCh d m) (keptCh d m') (cs1 := #[.slice a1 m.ss.length p1, .slice a2 m.ts.length p2, .slice a3 m.ac.length p3]) (cs2 := #[.slice b1 m'.ss.length q1, .slice b2 m'.ts.length q2, .slice b3 m'.ac.length q3]) t20
          have l4 := (t20.h4 _ rfl).1
          refine wpAnyH_ready (rs := [6]) (by kernel_rfl) (by simp) ?_
          refine AllReadyH.cons (o := _) rfl (fun K hK => ?_) (AllReadyH.nil)
          rw [if_pos (by rfl)]
          refine wp_store_row 26 _ _ rfl (W0.heap.size) _ rfl rfl 26 _ (t20.h4 _ rfl).2 ch_info rfl (by kernel_rfl) ?_
          refine hK.out _ _ ⟨(setRow_other _ _ _ _ (by omega)).trans t20.hx, (setRow_other _ _ _ _ (by omega)).trans t20.hy⟩ (fun hHeld => ?_)
          clear hK K
          rw [put_none (by rfl)]
          refine wpAnyH_ready (rs := [7]) (by kernel_rfl) (by simp) ?_
          refine AllReadyH.cons (o := _) rfl (fun K hK => ?_) (AllReadyH.nil)
          rw [if_pos (by rfl)]
          refine wp_store_row 26 _ _ rfl (W19.heap.size) _ rfl rfl 26 _ fin.1 ch_info rfl (by kernel_rfl) ?_
          refine hK.out _ _ ⟨fin.2.hx, fin.2.hy⟩ (fun hHeld => ?_)
          clear hK K
          refine wpAnyH_done (by kernel_rfl) ?_ _
          rw [put_none (by rfl)]
          refine Met.intro ?_
          go_step
          go_meet
          case rel => exact ⟨_, _, rfl, rfl, a1, p1, a2, p2, a3, p3, b1, q1, b2, q2, b3, q3, fin.2⟩
        · go_simp
          have t21 := t18.al5 (keptCh d m) (keptCh d m')
          obtain ⟨W21, eW⟩ : ∃ W, W = W18.alloc (.cells #[.slice none 0 0, .slice none 0 0, .slice none 0 0] 26 (0, 0)) := ⟨_, rfl⟩
          rw [← eW] at t21 ⊢
          clear eW
          refine hK.out _ _ ⟨t21.hx, t21.hy⟩ (fun hHeld => ?_)
          clear hK K
          refine wpAnyH_ready (rs := [3]) (by kernel_rfl) (by simp) ?_
          refine AllReadyH.cons (o := _) rfl (fun K hK => ?_) (AllReadyH.nil)
          go_simp
          refine (I2.out _ t21.hb).mono ?_
          rintro e W22 ⟨⟨b1, q1, b2, q2, b3, q3, rfl, hq⟩, hb⟩
          have t22 := t21.call2 (keptCh d m) (keptCh d m') hb ⟨b1, q1, b2, q2, b3, q3, rfl, hq⟩
          refine hK.out _ _ ⟨t22.hx, t22.hy⟩ (fun hHeld => ?_)
          clear hK K hq hb
          have fin := Tw.done (keptCh d m) (keptCh d m') (cs1 := #[.slice a1 m.ss.length p1, .slice a2 m.ts.length p2, .slice a3 m.ac.length p3]) (cs2 := #[.slice b1 m'.ss.length q1, .slice b2 m'.ts.length q2, .slice b3 m'.ac.length q3]) t22
          have l4 := (t22.h4 _ rfl).1
          refine wpAnyH_ready (rs := [6]) (by kernel_rfl) (by simp) ?_
          refine AllReadyH.cons (o := _) rfl (fun K hK => ?_) (AllReadyH.nil)
          rw [if_pos (by rfl)]
          refine wp_store_row 26 _ _ rfl (W0.heap.size) _ rfl rfl 26 _ (t22.h4 _ rfl).2 ch_info rfl (by kernel_rfl) ?_
          refine hK.out _ _ ⟨(setRow_other _ _ _ _ (by omega)).trans t22.hx, (setRow_other _ _ _ _ (by omega)).trans t22.hy⟩ (fun hHeld => ?_)
          clear hK K
          rw [put_none (by rfl)]
          refine wpAnyH_ready (rs := [7]) (by kernel_rfl) (by simp) ?_
          refine AllReadyH.cons (o := _) rfl (fun K hK => ?_) (AllReadyH.nil)
          rw [if_pos (by rfl)]
          refine wp_store_row 26 _ _ rfl (W18.heap.size) _ rfl rfl 26 _ fin.1 ch_info rfl (by kernel_rfl) ?_
          refine hK.out _ _ ⟨fin.2.hx, fin.2.hy⟩ (fun hHeld => ?_)
          clear hK K
          refine wpAnyH_done (by kernel_rfl) ?_ _
          rw [put_none (by rfl)]
          refine Met.intro ?_
          go_step
          go_meet
          case rel => exact ⟨_, _, rfl, rfl, a1, p1, a2, p2, a3, p3, b1, q1, b2, q2, b3, q3, fin.2⟩
      · go_simp
        have t23 := t17.al5 (keptCh d m) (keptCh d m')
        obtain ⟨W23, eW⟩ : ∃ W, W = W17.alloc (.cells #[.slice none 0 0, .slice none 0 0, .slice none 0 0] 26 (0, 0)) := ⟨_, rfl⟩
        rw [← eW] at t23 ⊢
        clear eW
        refine hK.out _ _ ⟨t23.hx, t23.hy⟩ (fun hHeld => ?_)
        clear hK K
        refine wpAnyH_ready (rs := [1]) (by kernel_rfl) (by simp) ?_
        refine AllReadyH.cons (o := _) rfl (fun K hK => ?_) (AllReadyH.nil)
        go_simp
        refine (I1.out _ t23.hb).mono ?_
        rintro e W24 ⟨⟨a1, p1, a2, p2, a3, p3, rfl, hq⟩, hb⟩
        have t24 := t23.call1 (keptCh d m) (keptCh d m') hb ⟨a1, p1, a2, p2, a3, p3, rfl, hq⟩
        refine hK.out _ _ ⟨t24.hx, t24.hy⟩ (fun hHeld => ?_)
        clear hK K hq hb
        refine wpAnyH_ready (rs := [3]) (by kernel_rfl) (by simp) ?_
        refine AllReadyH.cons (o := _) rfl (fun K hK => ?_) (AllReadyH.nil)
        go_simp
        refine (I2.out _ t24.hb).mono ?_
        rintro e W25 ⟨⟨b1, q1, b2, q2, b3, q3, rfl, hq⟩, hb⟩
        have t25 := t24.call2 (keptCh d m) (keptCh d m') hb ⟨b1, q1, b2, q2, b3, q3, rfl, hq⟩
        refine hK.out _ _ ⟨t25.hx, t25.hy⟩ (fun hHeld => ?_)
        clear hK K hq hb
        have fin := Tw.done (keptCh d m) (keptCh d m') (cs1 := #[.slice a1 m.ss.length p1, .slice a2 m.ts.length p2, .slice a3 m.ac.length p3]) (cs2 := #[.slice b1 m'.ss.length q1, .slice b2 m'.ts.length q2, .slice b3 m'.ac.length q3]) t25
        have l4 := (t25.h4 _ rfl).1
        refine wpAnyH_ready (rs := [6]) (by kernel_rfl) (by simp) ?_
        refine AllReadyH.cons (o := _) rfl (fun K hK => ?_) (AllReadyH.nil)
        rw [if_pos (by rfl)]
        refine wp_store_row 26 _ _ rfl (W0.heap.size) _ rfl rfl 26 _ (t25.h4 _ rfl).2 ch_info rfl (by kernel_rfl) ?_
        refine hK.out _ _ ⟨(setRow_other _ _ _ _ (by omega)).trans t25.hx, (setRow_other _ _ _ _ (by omega)).trans t25.hy⟩ (fun hHeld => ?_)
        clear hK K
        rw [put_none (by rfl)]
        refine wpAnyH_ready (rs := [7]) (by kernel_rfl) (by simp) ?_
        refine AllReadyH.cons (o := _) rfl (fun K hK => ?_) (AllReadyH.nil)
        rw [if_pos (by rfl)]
        refine wp_store_row 26 _ _ rfl (W17.heap.size) _ rfl rfl 26 _ fin.1 ch_info rfl (by kernel_rfl) ?_
        refine hK.out _ _ ⟨fin.2.hx, fin.2.hy⟩ (fun hHeld => ?_)
        clear hK K
        refine wpAnyH_done (by kernel_rfl) ?_ _
        rw [put_none (by rfl)]
        refine Met.intro ?_
        go_step
        go_meet
        case rel => exact ⟨_, _, rfl, rfl, a1, p1, a2, p2, a3, p3, b1, q1, b2, q2, b3, q3, fin.2⟩
    · go_simp
      have t26 := t0.al5 (keptCh d m) (keptCh d m')
      obtain ⟨W26, eW⟩ : ∃ W, W = W0.alloc (.cells #[.slice none 0 0, .slice none 0 0, .slice none 0 0] 26 (0, 0)) := ⟨_, rfl⟩
      rw [← eW] at t26 ⊢
      clear eW
      refine hK.out _ _ ⟨t26.hx, t26.hy⟩ (fun hHeld => ?_)
      clear hK K
      refine wpAnyH_ready (rs := [1, 4]) (by kernel_rfl) (by simp) ?_
      refine AllReadyH.cons (o := _) rfl (fun K hK => ?_) (AllReadyH.cons (o := _) rfl (fun K hK => ?_) (AllReadyH.nil))
      · go_simp
        refine (I1.out _ t26.hb).mono ?_
        rintro e W27 ⟨⟨a1, p1, a2, p2, a3, p3, rfl, hq⟩, hb⟩
        have t27 := t26.call1 (keptCh d m) (keptCh d m') hb ⟨a1, p1, a2, p2, a3, p3, rfl, hq⟩
        refine hK.out _ _ ⟨t27.hx, t27.hy⟩ (fun hHeld => ?_)
        clear hK K hq hb
        refine wpAnyH_ready (rs := [3, 4]) (by kernel_rfl) (by simp) ?_
        refine AllReadyH.cons (o := _) rfl (fun K hK => ?_) (AllReadyH.cons (o := _) rfl (fun K hK => ?_) (AllReadyH.nil))
        · go_simp
          refine (I2.out _ t27.hb).mono ?_
          rintro e W28 ⟨⟨b1, q1, b2, q2, b3, q3, rfl, hq⟩, hb⟩
          have t28 := t27.call2 (keptCh d m) (keptCh d m') hb ⟨b1, q1, b2, q2, b3, q3, rfl, hq⟩
          refine hK.out _ _ ⟨t28.hx, t28.hy⟩ (fun hHeld => ?_)
          clear hK K hq hb
          refine wpAnyH_ready (rs := [4]) (by kernel_rfl) (by simp) ?_
          refine AllReadyH.cons (o := _) rfl (fun K hK => ?_) (AllReadyH.nil)
          go_simp
          have t29 := t28.al4 (keptCh d m) (keptCh d m')
          obtain ⟨W29, eW⟩ : ∃ W, W = W28.alloc (.cells #[.slice none 0 0, .slice none 0 0, .slice none 0 0] 26 (0, 0)) := ⟨_, rfl⟩
          rw [← eW] at t29 ⊢
          clear eW
          refine hK.out _ _ ⟨t29.hx, t29.hy⟩ (fun hHeld => ?_)
          clear hK K
          have fin := Tw.done (keptCh d m) (keptCh d m') (cs1 := #[.slice a1 m.ss.length p1, .slice a2 m.ts.length p2, .slice a3 m.ac.length p3]) (cs2 := #[.slice b1 m'.ss.length q1, .slice b2 m'.ts.length q2, .slice b3 m'.ac.length q3]) t29
          have l4 := (t29.h4 _ rfl).1
          refine wpAnyH_ready (rs := [6]) (by kernel_rfl) (by simp) ?_
          refine AllReadyH.cons (o := _) rfl (fun K hK => ?_) (AllReadyH.nil)
          rw [if_pos (by rfl)]
          refine wp_store_row 26 _ _ rfl (W28.heap.size) _ rfl rfl 26 _ (t29.h4 _ rfl).2 ch_info rfl (by kernel_rfl) ?_
          refine hK.out _ _ ⟨(setRow_other _ _ _ _ (by omega)).trans t29.hx, (setRow_other _ _ _ _ (by omega)).trans t29.hy⟩ (fun hHeld => ?_)
          clear hK K
          rw [put_none (by rfl)]
          refine wpAnyH_ready (rs := [7]) (by kernel_rfl) (by simp) ?_
          refine AllReadyH.cons (o := _) rfl (fun K hK => ?_) (AllReadyH.nil)
          rw [if_pos (by rfl)]
          refine wp_store_row 26 _ _ rfl (W0.heap.size) _ rfl rfl 26 _ fin.1 ch_info rfl (by kernel_rfl) ?_
          refine hK.out _ _ ⟨fin.2.hx, fin.2.hy⟩ (fun hHeld => ?_)
          clear hK K
          refine wpAnyH_done (by kernel_rfl) ?_ _
          rw [put_none (by rfl)]
          refine Met.intro ?_
          go_step
          go_meet
          case rel => exact ⟨_, _, rfl, rfl, a1, p1, a2, p2, a3, p3, b1, q1, b2, q2, b3, q3, fin.2⟩
        · go_simp
          have t30 := t27.al4 (keptCh d m) (keptCh d m')
          obtain ⟨W30, eW⟩ : ∃ W, W = W27.alloc (.cells #[.slice none 0 0, .slice none 0 0, .slice none 0 0] 26 (0, 0)) := ⟨_, rfl⟩
          rw [← eW] at t30 ⊢
          clear eW
          refine hK.out _ _ ⟨t30.hx, t30.hy⟩ (fun hHeld => ?_)
          clear hK K
          refine wpAnyH_ready (rs := [3]) (by kernel_rfl) (by simp) ?_
          refine AllReadyH.cons (o := _) rfl (fun K hK => ?_) (AllReadyH.nil)
          go_simp
          refine (I2.out _ t30.hb).mono ?_
          rintro e W31 ⟨⟨b1, q1, b2, q2, b3, q3, rfl, hq⟩, hb⟩
          have t31 := t30.call2 (keptCh d m) (keptCh d m') hb ⟨b1, q1, b2, q2, b3, q3, rfl, hq⟩
          refine hK.out _ _ ⟨t31.hx, t31.hy⟩ (fun hHeld => ?_)
          clear hK K hq hb
          have fin := Tw.done (keptCh d m) (keptCh d m') (cs1 := #[.slice a1 m.ss.length p1, .slice a2 m.ts.length p2, .slice a3 m.ac.length p3]) (cs2 := #[.slice b1 m'.ss.length q1, .slice b2 m'.ts.length q2, .slice b3 m'.ac.length q3]) t31
          have l4 := (t31.h4 _ rfl).1
          refine wpAnyH_ready (rs := [6]) (by kernel_rfl) (by simp) ?_
          refine AllReadyH.cons (o := _) rfl (fun K hK => ?_) (AllReadyH.nil)
          rw [if_pos (by rfl)]
          refine wp_store_row 26 _ _ rfl (W27.heap.size) _ rfl rfl 26 _ (t31.h4 _ rfl).2 ch_info rfl (by kernel_rfl) ?_
          refine hK.out _ _ ⟨(setRow_other _ _ _ _ (by omega)).trans t31.hx, (setRow_other _ _ _ _ (by omega)).trans t31.hy⟩ (fun hHeld => ?_)
          clear hK K
          rw [put_none (by rfl)]
          refine wpAnyH_ready (rs := [7]) (by kernel_rfl) (by simp) ?_
          refine AllReadyH.cons (o := _) rfl (fun K hK => ?_) (AllReadyH.nil)
          rw [if_pos (by rfl)]
          refine wp_store_row 26 _ _ rfl (W0.heap.size) _ rfl rfl 26 _ fin.1 ch_info rfl (by kernel_rfl) ?_
          refine hK.out _ _ ⟨fin.2.hx, fin.2.hy⟩ (fun hHeld => ?_)
          clear hK K
          refine wpAnyH_done (by kernel_rfl) ?_ _
          rw [put_none (by rfl)]
          refine Met.intro ?_
          go_step
          go_meet
          case rel => exact ⟨_, _, rfl, rfl, a1, p1, a2, p2, a3, p3, b1, q1, b2, q2, b3, q3, fin.2⟩
      · go_simp
        have t32 := t26.al4 (keptCh d m) (keptCh d m')
        obtain ⟨W32, eW⟩ : ∃ W, W = W26.alloc (.cells #[.slice none 0 0, .slice none 0 0, .slice none 0 0] 26 (0, 0)) := ⟨_, rfl⟩
        rw [← eW] at t32 ⊢
        clear eW
        refine hK.out _ _ ⟨t32.hx, t32.hy⟩ (fun hHeld => ?_)
        clear hK K
        refine wpAnyH_ready (rs := [1]) (by kernel_rfl) (by simp) ?_
        refine AllReadyH.cons (o := _) rfl (fun K hK => ?_) (AllReadyH.nil)
        go_simp
        refine (I1.out _ t32.hb).mono ?_
        rintro e W33 ⟨⟨a1, p1, a2, p2, a3, p3, rfl, hq⟩, hb⟩
        have t33 := t32.call1 (keptCh d m) (keptCh d m') hb ⟨a1, p1, a2, p2, a3, p3, rfl, hq⟩
        refine hK.out _ _ ⟨t33.hx, t33.hy⟩ (fun hHeld => ?_)
        clear hK K hq hb
        refine wpAnyH_ready (rs := [3]) (by kernel_rfl) (by simp) ?_
        refine AllReadyH.cons (o := _) rfl (fun K hK => ?_) (AllReadyH.nil)
        go_simp
        refine (I2.out _ t33.hb).mono ?_
        rintro e W34 ⟨⟨b1, q1, b2, q2, b3, q3, rfl, hq⟩, hb⟩
        have t34 := t33.call2 (keptCh d m) (keptCh d m') hb ⟨b1, q1, b2, q2, b3, q3, rfl, hq⟩
        refine hK.out _ _ ⟨t34.hx, t34.hy⟩ (fun hHeld => ?_)
        clear hK K hq hb
        have fin := Tw.done (keptCh d m) (keptCh d m') (cs1 := #[.slice a1 m.ss.length p1, .slice a2 m.ts.length p2, .slice a3 m.ac.length p3]) (cs2 := #[.slice b1 m'.ss.length q1, .slice b2 m'.ts.length q2, .slice b3 m'.ac.length q3]) t34
        have l4 := (t34.h4 _ rfl).1
        refine wpAnyH_ready (rs := [6]) (by kernel_rfl) (by simp) ?_
        refine AllReadyH.cons (o := _) rfl (fun K hK => ?_) (AllReadyH.nil)
        rw [if_pos (by rfl)]
        refine wp_store_row 26 _ _ rfl (W26.heap.size) _ rfl rfl 26 _ (t34.h4 _ rfl).2 ch_info rfl (by kernel_rfl) ?_
        refine hK.out _ _ ⟨(setRow_other _ _ _ _ (by omega)).trans t34.hx, (setRow_other _ _ _ _ (by omega)).trans t34.hy⟩ (fun hHeld => ?_)
        clear hK K
        rw [put_none (by rfl)]
        refine wpAnyH_ready (rs := [7]) (by kernel_rfl) (by simp) ?_
        refine AllReadyH.cons (o := _) rfl (fun K hK => ?_) (AllReadyH.nil)
        rw [if_pos (by rfl)]
        refine wp_store_row 26 _ _ rfl (W0.heap.size) _ rfl rfl 26 _ fin.1 ch_info rfl (by kernel_rfl) ?_
        refine hK.out _ _ ⟨fin.2.hx, fin.2.hy⟩ (fun hHeld => ?_)
        clear hK K
        refine wpAnyH_done (by kernel_rfl) ?_ _
        rw [put_none (by rfl)]
        refine Met.intro ?_
        go_step
        go_meet
        case rel => exact ⟨_, _, rfl, rfl, a1, p1, a2, p2, a3, p3, b1, q1, b2, q2, b3, q3, fin.2⟩
  case rest =>
    obtain ⟨g4, g5, rfl, rfl, a1, p1, a2, p2, a3, p3, b1, q1, b2, q2, b3, q3, td⟩ := hcut
    clear AX AY AB I1 I2
    have M1 := td.h1.rows
    have M2 := td.h2.rows
    have MA : Hid (∀ V, Below wc.heap.size wc V → ChQ (fun b => b < V.heap.size) d V m a1 a2 a3) := fun V h => M1.on h
    have MB : Hid (∀ V, Below wc.heap.size wc V → ChQ (fun b => b < V.heap.size) d V m' b1 b2 b3) := fun V h => M2.on h
    have GB : Hid (∀ V, Below wc.heap.size wc V → Below w.heap.size w V) := fun V h => td.hb.trans (h.mono (by have := blk_lt td.hy; omega))
    have CF : Hid (∀ V, Below wc.heap.size wc V → V.heap[w.heap.size]? = some (.cells #[.slice x1 m.ss.length c1, .slice x2 m.ts.length c2, .slice x3 m.ac.length c3] 26 (0, 0)) ∧ V.heap[w.heap.size + 1]? = some (.cells #[.slice y1 m'.ss.length d1, .slice y2 m'.ts.length d2, .slice y3 m'.ac.length d3] 26 (0, 0)) ∧ V.heap[g4]? = some (.cells #[.slice a1 m.ss.length p1, .slice a2 m.ts.length p2, .slice a3 m.ac.length p3] 26 (0, 0)) ∧ V.heap[g5]? = some (.cells #[.slice b1 m'.ss.length q1, .slice b2 m'.ts.length q2, .slice b3 m'.ac.length q3] 26 (0, 0))) := fun V h => ⟨(h.block _ (blk_lt td.hx)).trans td.hx, (h.block _ (blk_lt td.hy)).trans td.hy, (h.block _ (blk_lt td.h4)).trans td.h4, (h.block _ (blk_lt td.h5)).trans td.h5⟩
    clear td M1 M2
    have E1 : Hid (∀ y : Sub wc, Calls Try.prog 5 #[.agg #[.slice a1 m.ss.length p1, .slice a2 m.ts.length p2, .slice a3 m.ac.length p3], .agg #[.slice b1 m'.ss.length q1, .slice b2 m'.ts.length q2, .slice b3 m'.ac.length q3]] y.w fun e w' => e = .returned (.bool (smCh d m m')) ∧ Below y.w.heap.size y.w w') := fun y => SameC_of d hd m m' _ _ _ _ _ _ _ _ _ _ _ _ y.w (MA.out _ y.h) (MB.out _ y.h)
    have E2 : Hid (∀ y : Sub wc, Calls Try.prog 6 #[.agg #[.slice x1 m.ss.length c1, .slice x2 m.ts.length c2, .slice x3 m.ac.length c3], .agg #[.slice y1 m'.ss.length d1, .slice y2 m'.ts.length d2, .slice y3 m'.ac.length d3]] y.w fun e w' => e = .returned (.bool (smCh d m m')) ∧ Below y.w.heap.size y.w w') := fun y => SameD_of d m m' _ _ _ _ _ _ _ _ _ _ _ _ y.w (HA.out.on (GB.out _ y.h)) (HB.out.on (GB.out _ y.h))
    have E3 : Hid (∀ y : Sub wc, Calls Try.prog 5 #[.agg #[.slice a1 m.ss.length p1, .slice a2 m.ts.length p2, .slice a3 m.ac.length p3], .agg #[.slice a1 m.ss.length p1, .slice a2 m.ts.length p2, .slice a3 m.ac.length p3]] y.w fun e w' => e = .returned (.bool true) ∧ Below y.w.heap.size y.w w') := fun y => by have := SameC_of d hd m m _ _ _ _ _ _ p1 p2 p3 p1 p2 p3 y.w (MA.out _ y.h) (MA.out _ y.h); rwa [smCh_refl (MA.out _ y.h)] at this
    have E4 : Hid (∀ y : Sub wc, Calls Try.prog 7 #[.agg #[.slice a1 m.ss.length p1, .slice a2 m.ts.length p2, .slice a3 m.ac.length p3], .agg #[.slice x1 m.ss.length c1, .slice x2 m.ts.length c2, .slice x3 m.ac.length c3]] y.w fun e w' => e = .returned (.bool true) ∧ Below y.w.heap.size y.w w') := fun y => plainCh d m _ _ _ _ _ _ p1 p2 p3 c1 c2 c3 y.w (MA.out _ y.h) (HA.out.on (GB.out _ y.h))
    have E5 : Hid (∀ y : Sub wc, Calls Try.prog 7 #[.agg #[.slice b1 m'.ss.length q1, .slice b2 m'.ts.length q2, .slice b3 m'.ac.length q3], .agg #[.slice y1 m'.ss.length d1, .slice y2 m'.ts.length d2, .slice y3 m'.ac.length d3]] y.w fun e w' => e = .returned (.bool true) ∧ Below y.w.heap.size y.w w') := fun y => plainCh d m' _ _ _ _ _ _ q1 q2 q3 d1 d2 d3 y.w (MB.out _ y.h) (HB.out.on (GB.out _ y.h))
    generalize smCh d m m' = r at *
    have er : (r == r) = true := by simp
    have k00 : ∀ y : Sub wc, y.w.cell? ⟨w.heap.size, 0, none⟩ = some (.slice x1 m.ss.length c1) := fun y => (cells3C (CF.out _ y.h).1).1
    have k01 : ∀ y : Sub wc, y.w.cell? ⟨w.heap.size, 1, none⟩ = some (.slice x2 m.ts.length c2) := fun y => (cells3C (CF.out _ y.h).1).2.1
    have k02 : ∀ y : Sub wc, y.w.cell? ⟨w.heap.size, 2, none⟩ = some (.slice x3 m.ac.length c3) := fun y => (cells3C (CF.out _ y.h).1).2.2
    have k10 : ∀ y : Sub wc, y.w.cell? ⟨w.heap.size + 1, 0, none⟩ = some (.slice y1 m'.ss.length d1) := fun y => (cells3C (CF.out _ y.h).2.1).1
    have k11 : ∀ y : Sub wc, y.w.cell? ⟨w.heap.size + 1, 1, none⟩ = some (.slice y2 m'.ts.length d2) := fun y => (cells3C (CF.out _ y.h).2.1).2.1
    have k12 : ∀ y : Sub wc, y.w.cell? ⟨w.heap.size + 1, 2, none⟩ = some (.slice y3 m'.ac.length d3) := fun y => (cells3C (CF.out _ y.h).2.1).2.2
    have k20 : ∀ y : Sub wc, y.w.cell? ⟨g4, 0, none⟩ = some (.slice a1 m.ss.length p1) := fun y => (cells3C (CF.out _ y.h).2.2.1).1
    have k21 : ∀ y : Sub wc, y.w.cell? ⟨g4, 1, none⟩ = some (.slice a2 m.ts.length p2) := fun y => (cells3C (CF.out _ y.h).2.2.1).2.1
    have k22 : ∀ y : Sub wc, y.w.cell? ⟨g4, 2, none⟩ = some (.slice a3 m.ac.length p3) := fun y => (cells3C (CF.out _ y.h).2.2.1).2.2
    have k30 : ∀ y : Sub wc, y.w.cell? ⟨g5, 0, none⟩ = some (.slice b1 m'.ss.length q1) := fun y => (cells3C (CF.out _ y.h).2.2.2).1
    have k31 : ∀ y : Sub wc, y.w.cell? ⟨g5, 1, none⟩ = some (.slice b2 m'.ts.length q2) := fun y => (cells3C (CF.out _ y.h).2.2.2).2.1
    have k32 : ∀ y : Sub wc, y.w.cell? ⟨g5, 2, none⟩ = some (.slice b3 m'.ac.length q3) := fun y => (cells3C (CF.out _ y.h).2.2.2).2.2
    go_wp2_with fail
    refine wp_region_sub2 (by kernel_rfl) (by kernel_rfl) ?_
    intro cx
    clear cx
    repeat (first | go_big_quiet_skip | (go_big_quiet_want; go_big_quiet_op; first | go_big_quiet_on | (refine ⟨_, fun _ => rfl, ?_⟩; go_big_quiet_on) | go_big_quiet_call (first | (go_at_call 5; with_reducible exact calls_sub (E1.out _)) | (go_at_call 5; with_reducible exact calls_sub (E3.out _)) | (go_at_call 6; with_reducible exact calls_sub (E2.out _)) | (go_at_call 7; with_reducible exact calls_sub (E4.out _)) | (go_at_call 7; with_reducible exact calls_sub (E5.out _)))))
    refine wpQuiet_nil ?_
    rintro _ ⟨y, rfl⟩
    have Y : Hid (Below w.heap.size w y.w) := GB.out _ y.h
    clear E1 E2 E3 E4 E5 k00 k01 k02 k10 k11 k12 k20 k21 k22 k30 k31 k32 CF MA MB
    go_wp2
    go_ret
    exact ⟨rfl, Y.out⟩
end Go.Proofs.Ytcoeinfopfcekaa
