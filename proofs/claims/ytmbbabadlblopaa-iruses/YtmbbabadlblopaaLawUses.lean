/- IrUses is proved: for every instruction and number the statement's function returns true, and its arguments read as they did; no condition. -/
import Derived.Test.YtmbbabadlblopaaIrP
import Derived.ShutString
import Derived.ChangeOld
import Derived.Handy
import Derived.Deep.RegionHeld3
import Derived.Deep.DeepCutAuto
import Derived.ChangeMaps5
namespace Go.Proofs.Ytmbbabadlblopaa.LawUses
set_option linter.unusedVariables false
open Go.ChangeShapes Go.WideShapes Go.ChangeAt Go.RowKit
theorem own : ownKnob Try.prog.godebug = none := by kernel_rfl
theorem laidOut : laidOutB Try.prog = true := by kernel_rfl
set_option maxHeartbeats 1000000 in
theorem eq_ints (l : List Int) (w : World) (u v : Value) (b1 b2 : Nat) (hu : IRow b1 w l u) (hv : IRow b2 w l v) (hl : l.length ≤ 2) : Calls Try.prog 6 #[u, v] w fun e w' => e = .returned (.bool true) ∧ Below w.heap.size w w' := by
  have shp : ∀ (b : Nat) (v : Value), IRow b w l v → ∃ a, v = .slice a l.length l.length ∧ ∀ (i : Nat) (x : Int), l[i]? = some x → ∃ g, a = some ⟨g, 0, none⟩ ∧ w.cell? ⟨g, i, none⟩ = some (.int .i64 x) ∧ g < w.heap.size := by
    intro b v h
    rcases h with ⟨rfl, rfl⟩ | ⟨g, rfl, _, n⟩
    · exact ⟨none, rfl, fun i x h => by simp at h⟩
    · exact ⟨_, rfl, fun i x h => ⟨g, rfl, n.cell i x h, n.lt⟩⟩
  obtain ⟨a1, rfl, p1⟩ := shp _ _ hu
  obtain ⟨a2, rfl, p2⟩ := shp _ _ hv
  clear shp hu hv
  have HL : Hid (l.length ≤ 2) := hl
  have P1 : Hid _ := p1
  have P2 : Hid _ := p2
  clear p1 p2 hl
  generalize hn : l.length = n at *
  have HN : Hid (l.length = n) := hn
  clear hn
  go_enter Try.func6, Try.ntmps6
  go_wp2_with fail
  go_loopw [13] (fun i wr => ∃ k : Nat, k ≤ n ∧ i = .int .i64 k ∧ Below w.heap.size w wr) (fun i _ => n - (intOf i).toNat)
  case atStart => exact ⟨0, Nat.zero_le _, rfl, Below.refl _ _⟩
  case round =>
    obtain ⟨k, hk, rfl, hbw⟩ := hrel
    have HW : Hid (Below w.heap.size w wr) := hbw
    have n2 : n ≤ 2 := HL.out
    by_cases hlt : k < n
    · have hx : l[k]? = some (l[k]'(by rw [HN.out]; exact hlt)) := List.getElem?_eq_getElem _
      obtain ⟨g1, rfl, c1, z1⟩ := P1.out k _ hx
      obtain ⟨g2, rfl, c2, z2⟩ := P2.out k _ hx
      have e0 := (hbw.cell (p := ⟨g1, k, none⟩) z1).trans c1
      have e1 := (hbw.cell (p := ⟨g2, k, none⟩) z2).trans c2
      generalize l[k]'(by rw [HN.out]; exact hlt) = x at *
      clear hbw hx c1 c2 P1 P2
      have kl : (k : Int) < n := by omega
      have k16 : (k : Int) ≤ 1000 := by omega
      have za := block_lt_of_cell e0
      have zb := block_lt_of_cell e1
      go_wp2_with fail
      have cy : ∀ y : Sub wr, y.w.cell? ⟨g1, k, none⟩ = some (.int .i64 x) := fun y => (y.h.cell za).trans e0
      have cz : ∀ y : Sub wr, y.w.cell? ⟨g2, k, none⟩ = some (.int .i64 x) := fun y => (y.h.cell zb).trans e1
      refine wp_region_sub2 (by kernel_rfl) (by kernel_rfl) ?_
      intro cx
      repeat (first | go_big_quiet_skip | (go_big_quiet_want; go_big_quiet_op; first | go_big_quiet_on | (refine ⟨_, fun _ => rfl, ?_⟩; go_big_quiet_on)))
      refine wpQuiet_nil ?_
      rintro _ ⟨y, rfl⟩
      have Y : Hid (Below wr.heap.size wr y.w) := y.h
      clear cx cy cz
      go_wp2
      exact ⟨⟨k + 1, by omega, by go_num, HW.out.trans (Y.out.mono HW.out.size)⟩, by simp [intOf]; omega⟩
    · have ek : k = n := by omega
      have kl : ¬ (k : Int) < n := by omega
      clear hbw
      go_wp2
      go_ret
      exact ⟨rfl, HW.out⟩
theorem us_len (c a b x d : Int) : (usL c a b x d).length ≤ 2 := by
  unfold usL
  repeat' split
  all_goals simp
theorem nx_len (c b n : Int) : (nxL c b n).length ≤ 2 := by
  unfold nxL
  repeat' split
  all_goals simp
/-- An instruction's box. -/
def OB (w : World) (g : Nat) (c a b x d : Int) (c5 c6 c7 c8 c9 : Value) : Prop := w.cell? ⟨g, 0, none⟩ = some (.int .i64 c) ∧ w.cell? ⟨g, 1, none⟩ = some (.int .i64 a) ∧ w.cell? ⟨g, 2, none⟩ = some (.int .i64 b) ∧ w.cell? ⟨g, 3, none⟩ = some (.int .i64 x) ∧ w.cell? ⟨g, 4, none⟩ = some (.int .i64 d) ∧ w.cell? ⟨g, 5, none⟩ = some c5 ∧ w.cell? ⟨g, 6, none⟩ = some c6 ∧ w.cell? ⟨g, 7, none⟩ = some c7 ∧ w.cell? ⟨g, 8, none⟩ = some c8 ∧ w.cell? ⟨g, 9, none⟩ = some c9
theorem OB.below {w w' : World} {m g : Nat} {c a b x d : Int} {c5 c6 c7 c8 c9 : Value} (h : OB w g c a b x d c5 c6 c7 c8 c9) (hb : Below m w w') (q : g < m) : OB w' g c a b x d c5 c6 c7 c8 c9 := by
  obtain ⟨h0, h1, h2, h3, h4, h5, h6, h7, h8, h9⟩ := h
  have k : ∀ o, w'.cell? ⟨g, o, none⟩ = w.cell? ⟨g, o, none⟩ := fun o => hb.cell (p := ⟨g, o, none⟩) q
  exact ⟨(k 0).trans h0, (k 1).trans h1, (k 2).trans h2, (k 3).trans h3, (k 4).trans h4, (k 5).trans h5, (k 6).trans h6, (k 7).trans h7, (k 8).trans h8, (k 9).trans h9⟩
theorem OB.drew {w w' : World} {g : Nat} {c a b x d : Int} {c5 c6 c7 c8 c9 : Value} (h : OB w g c a b x d c5 c6 c7 c8 c9) (hb : Below w.drew.heap.size w.drew w') (q : g < w.heap.size) : OB w' g c a b x d c5 c6 c7 c8 c9 ∧ Below w.heap.size w w' ∧ g < w'.heap.size := by
  have b2 : Below w.heap.size w w' := (Below.refl _ _).drew.trans hb
  exact ⟨h.below b2 q, b2, Nat.lt_of_lt_of_le q b2.size⟩
theorem OB.on {W w w' : World} {g : Nat} {c a b x d : Int} {c5 c6 c7 c8 c9 : Value} (h : OB w g c a b x d c5 c6 c7 c8 c9) (hb : Below w.heap.size w w') (hB : Below W.heap.size W w) (q : g < w.heap.size) : OB w' g c a b x d c5 c6 c7 c8 c9 ∧ Below W.heap.size W w' ∧ g < w'.heap.size := ⟨h.below hb q, hB.trans (hb.mono hB.size), Nat.lt_of_lt_of_le q hb.size⟩
/-- The block of a row lies below. -/
def Und (m : Nat) (v : Value) : Prop := ∀ g o n k, v = .slice (some ⟨g, o, none⟩) n k → g < m
theorem und_row {base : Nat} {w : World} {l : List Int} {v : Value} (h : IRow base w l v) : Und w.heap.size v := by
  rcases h with ⟨_, rfl⟩ | ⟨g, rfl, _, n⟩
  · intro g o n k e; simp at e
  · intro g' o n' k e; simp at e; rw [← e.1.1]; exact n.lt
theorem two_rows {w w1 w2 : World} {l : List Int} {u v : Value} (h1 : IRow w.heap.size w1 l u) (h2 : IRow w1.heap.size w2 l v) (hb : Below w1.heap.size w1 w2) : IRow w.heap.size w2 l u ∧ ∃ m, Und m u ∧ IRow m w2 l v := ⟨h1.below hb (Nat.le_refl _), _, und_row h1, h2⟩
/-- What holds while the first row is written. -/
def Inv (W wr : World) (a5 : Option Addr) (N : Nat) (l : List Int) (m m7 B : Nat) (u6 v1 : Value) (c a b x d : Int) (c5 c6 c7 c8 c9 : Value) : Prop :=
  (∀ g, a5 = some ⟨g, 0, none⟩ → ∃ l', l'.length = N ∧ NBk wr g l') ∧ IRow m wr l u6 ∧ IRow m7 wr l v1 ∧ OB wr B c a b x d c5 c6 c7 c8 c9 ∧ Below W.heap.size W wr
theorem IRow.set {base : Nat} {w : World} {l : List Int} {v : Value} (h : IRow base w l v) {g : Nat} (q : g < base) (i : Nat) (u : Value) : IRow base (w.setCell ⟨g, i, none⟩ u) l v := by
  rcases h with h | ⟨k, e, hk, n⟩
  · exact .inl h
  · exact .inr ⟨k, e, hk, n.same (Below.heap_setCell _ _ _ _ (by show k ≠ g; omega))⟩
theorem Inv.set {W wr : World} {g N : Nat} {l : List Int} {m m7 B : Nat} {u6 v1 : Value} {c a b x d : Int} {c5 c6 c7 c8 c9 : Value} (h : Inv W wr (some ⟨g, 0, none⟩) N l m m7 B u6 v1 c a b x d c5 c6 c7 c8 c9)
    (h1 : g < m) (h2 : g < m7) (h3 : W.heap.size ≤ g) (h4 : B < W.heap.size) (k : Nat) (z : Int) : Inv W (wr.setCell ⟨g, k, none⟩ (.int .i64 z)) (some ⟨g, 0, none⟩) N l m m7 B u6 v1 c a b x d c5 c6 c7 c8 c9 := by
  obtain ⟨p, p6, p7, po, pb⟩ := h
  obtain ⟨l', hl, hn⟩ := p g rfl
  refine ⟨?_, IRow.set p6 h1 _ _, IRow.set p7 h2 _ _, ?_, pb.setCell (p := ⟨g, k, none⟩) h3 _⟩
  · intro g' e
    cases e
    exact ⟨_, by rw [List.length_set]; exact hl, hn.set k z⟩
  · have q : (wr.setCell ⟨g, k, none⟩ (.int .i64 z)).heap[B]? = wr.heap[B]? := Below.heap_setCell _ _ _ _ (by show B ≠ g; omega)
    have r : ∀ o, (wr.setCell ⟨g, k, none⟩ (.int .i64 z)).cell? ⟨B, o, none⟩ = wr.cell? ⟨B, o, none⟩ := fun o => World.cell?_of_block (a := ⟨B, o, none⟩) q
    obtain ⟨h0, h1, h2, h3, h4, h5, h6, h7, h8, h9⟩ := po
    exact ⟨(r 0).trans h0, (r 1).trans h1, (r 2).trans h2, (r 3).trans h3, (r 4).trans h4, (r 5).trans h5, (r 6).trans h6, (r 7).trans h7, (r 8).trans h8, (r 9).trans h9⟩
theorem Inv.below {W wr w' : World} {a5 : Option Addr} {N : Nat} {l : List Int} {m m7 B : Nat} {u6 v1 : Value} {c a b x d : Int} {c5 c6 c7 c8 c9 : Value} (h : Inv W wr a5 N l m m7 B u6 v1 c a b x d c5 c6 c7 c8 c9)
    (h4 : B < W.heap.size) (hb : Below wr.heap.size wr w') : Inv W w' a5 N l m m7 B u6 v1 c a b x d c5 c6 c7 c8 c9 := by
  obtain ⟨p, p6, p7, po, pb⟩ := h
  refine ⟨fun g e => ?_, IRow.below p6 hb (Nat.le_refl _), IRow.below p7 hb (Nat.le_refl _), po.below hb (Nat.lt_of_lt_of_le h4 pb.size), pb.trans (hb.mono pb.size)⟩
  obtain ⟨l', hl, hn⟩ := p g e
  exact ⟨l', hl, hn.below hb hn.lt⟩
theorem place_b (n : Int) : 0 ≤ wrap64 ((IntKind.u64.wrap n).tmod 16385) ∧ wrap64 ((IntKind.u64.wrap n).tmod 16385) ≤ 16384 := by
  have h := IntKind.wrap_u64 n
  have h0 : 0 ≤ IntKind.u64.wrap n := by rw [h]; omega
  rw [Int.tmod_eq_emod_of_nonneg h0]
  generalize IntKind.u64.wrap n = z at *
  have a := Int.emod_nonneg z (show (16385 : Int) ≠ 0 by decide)
  have b := Int.emod_lt_of_pos z (show (0 : Int) < 16385 by decide)
  generalize z % 16385 = q at *
  have e : wrap64 q = q := by simp only [wrap64]; omega
  rw [e]; omega
set_option maxHeartbeats 2000000 in
theorem walk (c a b x d : Int) (c5 c6 c7 c8 c9 : Value) (n : Int) (w : World) (hn : -9223372036854775808 ≤ n ∧ n < 9223372036854775808) :
    Calls Try.prog 3 #[Iq c a b x d c5 c6 c7 c8 c9, .int .i64 n] w fun e w' => e = .returned (.bool true) ∧ Below w.heap.size w w' := by
  have UL := us_len c a b x d
  generalize hu : usL c a b x d = l at *
  have U1 : Hid (∀ w, Calls Try.prog 4 #[Iq c a b x d c5 c6 c7 c8 c9] w (IRes w l)) := by intro w; rw [← hu]; exact Uses_of _ _ _ _ _ _ _ _ _ _ _
  have U2 : Hid (∀ w, Calls Try.prog 5 #[Iq c a b x d c5 c6 c7 c8 c9] w (IRes w l)) := by intro w; rw [← hu]; exact UsesR_of _ _ _ _ _ _ _ _ _ _ _
  have HL : Hid (l.length ≤ 2) := UL
  clear hu UL
  go_enter Try.func3, Try.ntmps3
  go_wp2_with fail
  generalize hW : w.alloc _ = W
  have ob : OB W w.heap.size c a b x d c5 c6 c7 c8 c9 := by rw [← hW]; exact ⟨by simp, by simp, by simp, by simp, by simp, by simp, by simp, by simp, by simp, by simp⟩
  have BW : Hid (Below w.heap.size w W) := by show Below _ _ _; rw [← hW]; exact (Below.refl _ _).alloc (Nat.le_refl _) _
  have zW : w.heap.size < W.heap.size := by rw [← hW, World.size_alloc]; omega
  clear hW
  have O : Hid (OB W w.heap.size c a b x d c5 c6 c7 c8 c9) := ob
  obtain ⟨h0, h1, h2, h3, h4, h5, h6, h7, h8, h9⟩ := ob
  generalize hB : w.heap.size = B at *
  have HB : Hid (w.heap.size = B) := hB
  clear hB
  go_cut [5, 6] (fun s5 s6 wx => IRow W.heap.size wx l s5 ∧ (∃ m, Und m s5 ∧ IRow m wx l s6) ∧ Below W.heap.size W wx)
  case first =>
    go_region_held3 (fun W => W.cell? ⟨B, 0, none⟩ = some (.int .i64 c) ∧ W.cell? ⟨B, 1, none⟩ = some (.int .i64 a) ∧ W.cell? ⟨B, 2, none⟩ = some (.int .i64 b) ∧ W.cell? ⟨B, 3, none⟩ = some (.int .i64 x) ∧ W.cell? ⟨B, 4, none⟩ = some (.int .i64 d) ∧ W.cell? ⟨B, 5, none⟩ = some c5 ∧ W.cell? ⟨B, 6, none⟩ = some c6 ∧ W.cell? ⟨B, 7, none⟩ = some c7 ∧ W.cell? ⟨B, 8, none⟩ = some c8 ∧ W.cell? ⟨B, 9, none⟩ = some c9) (go_keep)
      (first
        | (go_at_call 4; refine (U1.out _).mono ?_; rintro e w1 ⟨v1, rfl, hr1, hb1⟩
           have O1 : OB w1 B c a b x d c5 c6 c7 c8 c9 ∧ Below W.heap.size W w1 ∧ B < w1.heap.size := by first | exact O.out.drew hb1 zW | exact P1.out.on hb1 B1 z1
           obtain ⟨O1, B1, z1⟩ := O1
           have P1 : Hid (OB w1 B c a b x d c5 c6 c7 c8 c9) := O1
           obtain ⟨k0, k1, k2, k3, k4, k5, k6, k7, k8, k9⟩ := O1))
    go_wp2_with fail
    go_meet
    case rel =>
      rename_i hr0 hb0 _ _ _ _ _ _ _ _ _ _ _ _ _ _
      exact ⟨(two_rows (w := W) hr0 hr1 hb1).1, (two_rows (w := W) hr0 hr1 hb1).2, B1⟩
  case rest =>
    obtain ⟨r5, ⟨m, ud, r6⟩, hb⟩ := hcut
    have BC : Hid (Below W.heap.size W wc) := hb
    have OC : Hid (OB wc B c a b x d c5 c6 c7 c8 c9) := O.out.below hb zW
    have R5 : Hid (IRow W.heap.size wc l u5) := r5
    have R6 : Hid (IRow m wc l u6) := r6
    have U5 : Hid (Und m u5) := ud
    have R5c : Hid (Und wc.heap.size u5) := und_row r5
    have zC : B < wc.heap.size := Nat.lt_of_lt_of_le zW hb.size
    obtain ⟨k0, k1, k2, k3, k4, k5, k6, k7, k8, k9⟩ := OC.out
    clear hb r5 r6 ud h0 h1 h2 h3 h4 h5 h6 h7 h8 h9
    go_wp2_with (first
      | (go_at_call 5; refine (U2.out _).mono ?_; rintro e w1 ⟨v1, rfl, hr1, hb1⟩; have R7 : Hid _ := hr1; have B7 : Hid _ := hb1; have O7 : Hid (OB w1 B c a b x d c5 c6 c7 c8 c9) := OC.out.below hb1 zC; have z7 : B < w1.heap.size := Nat.lt_of_lt_of_le zC hb1.size; have R5' : Hid (IRow W.heap.size w1 l u5) := R5.out.below hb1 (Nat.le_refl _); have R6' : Hid (IRow m w1 l u6) := R6.out.below hb1 (Nat.le_refl _); clear hr1 hb1))
    have E1 : Hid (∀ y : Sub w1, Calls Try.prog 6 #[u5, v1] y.w fun e w' => e = .returned (.bool true) ∧ Below y.w.heap.size y.w w') := fun y => eq_ints l _ _ _ _ _ (R5'.out.below y.h (Nat.le_refl _)) (IRow.below R7.out y.h (Nat.le_refl _)) HL.out
    have G1 : Hid (∀ w, Calls Try.prog 7 #[Iq c a b x d c5 c6 c7 c8 c9] w fun e w' => e = .returned (.int .i64 (gvN c a)) ∧ Below w.heap.size w w') := fun w => Gives_of _ _ _ _ _ _ _ _ _ _ _
    have G2 : Hid (∀ w, Calls Try.prog 8 #[Iq c a b x d c5 c6 c7 c8 c9] w fun e w' => e = .returned (.int .i64 (gvN c a)) ∧ Below w.heap.size w w') := fun w => GivesR_of _ _ _ _ _ _ _ _ _ _ _
    generalize gvN c a = gv at *
    obtain ⟨l0, l1, l2, l3, l4, l5, l6, l7, l8, l9⟩ := O7.out
    refine wp_region_sub2 (by kernel_rfl) (by kernel_rfl) ?_
    intro cx
    have y0 : ∀ y : Sub w1, y.w.cell? ⟨B, 0, none⟩ = some (.int .i64 c) := fun y => (cx y B 0 z7).trans l0
    have y1 : ∀ y : Sub w1, y.w.cell? ⟨B, 1, none⟩ = some (.int .i64 a) := fun y => (cx y B 1 z7).trans l1
    have y2 : ∀ y : Sub w1, y.w.cell? ⟨B, 2, none⟩ = some (.int .i64 b) := fun y => (cx y B 2 z7).trans l2
    have y3 : ∀ y : Sub w1, y.w.cell? ⟨B, 3, none⟩ = some (.int .i64 x) := fun y => (cx y B 3 z7).trans l3
    have y4 : ∀ y : Sub w1, y.w.cell? ⟨B, 4, none⟩ = some (.int .i64 d) := fun y => (cx y B 4 z7).trans l4
    have y5 : ∀ y : Sub w1, y.w.cell? ⟨B, 5, none⟩ = some c5 := fun y => (cx y B 5 z7).trans l5
    have y6 : ∀ y : Sub w1, y.w.cell? ⟨B, 6, none⟩ = some c6 := fun y => (cx y B 6 z7).trans l6
    have y7 : ∀ y : Sub w1, y.w.cell? ⟨B, 7, none⟩ = some c7 := fun y => (cx y B 7 z7).trans l7
    have y8 : ∀ y : Sub w1, y.w.cell? ⟨B, 8, none⟩ = some c8 := fun y => (cx y B 8 z7).trans l8
    have y9 : ∀ y : Sub w1, y.w.cell? ⟨B, 9, none⟩ = some c9 := fun y => (cx y B 9 z7).trans l9
    clear cx
    repeat (first | go_big_quiet_skip | (go_big_quiet_want; go_big_quiet_op; first | go_big_quiet_on | (refine ⟨_, fun _ => rfl, ?_⟩; go_big_quiet_on) | go_big_quiet_call (first | (go_at_call 6; exact calls_sub (E1.out _)) | (go_at_call 7; exact calls_sub (G1.out _)) | (go_at_call 8; exact calls_sub (G2.out _)))))
    refine wpQuiet_nil ?_
    rintro _ ⟨y, rfl⟩
    clear y0 y1 y2 y3 y4 y5 y6 y7 y8 y9 E1 G1 G2
    have B8 : Hid (Below w1.heap.size w1 y.w) := y.h
    obtain ⟨w2, hw2⟩ : ∃ w2, w2 = y.w := ⟨_, rfl⟩
    rw [← hw2] at B8 ⊢
    have R5 : Hid (IRow W.heap.size w2 l u5) := R5'.out.below B8.out (Nat.le_refl _)
    have R6 : Hid (IRow m w2 l u6) := R6'.out.below B8.out (Nat.le_refl _)
    have R7 : Hid (IRow wc.heap.size w2 l v1) := IRow.below R7.out B8.out (Nat.le_refl _)
    have O8 : Hid (OB w2 B c a b x d c5 c6 c7 c8 c9) := O7.out.below B8.out z7
    have z8 : B < w2.heap.size := Nat.lt_of_lt_of_le z7 B8.out.size
    clear hw2 y
    have sh : ∃ a5, u5 = .slice a5 l.length l.length ∧ (∀ k, k < l.length → ∃ g, a5 = some ⟨g, 0, none⟩ ∧ W.heap.size ≤ g ∧ g < m ∧ g < wc.heap.size) ∧ Inv W w2 a5 l.length l m wc.heap.size B u6 v1 c a b x d c5 c6 c7 c8 c9 := by
      have bw : Below W.heap.size W w2 := BC.out.trans ((B7.out.trans (B8.out.mono B7.out.size)).mono BC.out.size)
      have lt5 := R5c.out
      rcases R5.out with ⟨e, rfl⟩ | ⟨g, rfl, hg, nb⟩
      · subst e
        exact ⟨none, rfl, fun k hk => by simp at hk, ⟨fun g e => (by cases e), R6.out, R7.out, O8.out, bw⟩⟩
      · have gm := U5.out g 0 _ _ rfl
        have gw : g < wc.heap.size := lt5 g 0 _ _ rfl
        exact ⟨_, rfl, fun k hk => ⟨g, rfl, hg, gm, gw⟩, ⟨fun g' e => (by cases e; exact ⟨l, rfl, nb⟩), R6.out, R7.out, O8.out, bw⟩⟩
    obtain ⟨a5, rfl, hs, inv⟩ := sh
    have HS : Hid _ := hs
    have IN : Hid (Inv W w2 a5 l.length l m wc.heap.size B u6 v1 c a b x d c5 c6 c7 c8 c9) := inv
    clear hs inv R5 R6 R7 O8 R5' R6' O7 OC U5 R5c
    have N2 : l.length ≤ 2 := HL.out
    generalize hN : l.length = N at *
    have HN : Hid (l.length = N) := hN
    clear hN
    go_wp2_with fail
    go_loopw [28] (fun i wr => ∃ k : Nat, k ≤ N ∧ i = .int .i64 k ∧ Inv W wr a5 N l m wc.heap.size B u6 v1 c a b x d c5 c6 c7 c8 c9) (fun i _ => N - (intOf i).toNat)
    case atStart => exact ⟨0, Nat.zero_le _, rfl, IN.out⟩
    case round =>
      obtain ⟨k, hk, rfl, hi⟩ := hrel
      have HI : Hid (Inv W wr a5 N l m wc.heap.size B u6 v1 c a b x d c5 c6 c7 c8 c9) := hi
      clear hi
      by_cases hlt : k < N
      · obtain ⟨g, rfl, g1, g2, g3⟩ := HS.out k hlt
        obtain ⟨l', hl', nb⟩ := HI.out.1 g rfl
        have e0 := nb.cell k (l'[k]'(by omega)) (List.getElem?_eq_getElem _)
        have e1 := nb.free k
        generalize l'[k]'(by omega) = z at *
        clear nb hl'
        have kl : (k : Int) < N := by omega
        have k16 : (k : Int) ≤ 1000 := by omega
        go_wp2_with fail
        exact ⟨⟨k + 1, by omega, by go_num, HI.out.set g2 g3 g1 zW k (-9)⟩, by simp [intOf]; omega⟩
      · have ek : k = N := by omega
        have kl : ¬ (k : Int) < N := by omega
        clear k0 k1 k2 k3 k4 k5 k6 k7 k8 k9 l0 l1 l2 l3 l4 l5 l6 l7 l8 l9
        go_wp2_with (first
          | (go_at_call 6; refine (eq_ints l _ _ _ _ _ HI.out.2.1 HI.out.2.2.1 (by rw [HN.out]; exact N2)).mono ?_; rintro e w3 ⟨rfl, hb3⟩; have I3 : Hid _ := HI.out.below zW hb3; clear hb3))
        obtain ⟨q0, q1⟩ := place_b n
        generalize wrap64 ((IntKind.u64.wrap n).tmod 16385) = q at *
        have X1 : Hid (∀ w, Calls Try.prog 9 #[Iq c a b x d c5 c6 c7 c8 c9, .int .i64 q] w (IRes w (nxL c b q))) := fun w => Next_of _ _ _ _ _ _ _ _ _ _ _ _ q0 q1
        have X2 : Hid (∀ w, Calls Try.prog 10 #[Iq c a b x d c5 c6 c7 c8 c9, .int .i64 q] w (IRes w (nxL c b q))) := fun w => NextR_of _ _ _ _ _ _ _ _ _ _ _ _ q0 q1
        have XL : Hid ((nxL c b q).length ≤ 2) := nx_len c b q
        generalize nxL c b q = r at *
        have B3 : Hid (Below W.heap.size W w3) := I3.out.2.2.2.2
        have O3 : Hid (OB w3 B c a b x d c5 c6 c7 c8 c9) := I3.out.2.2.2.1
        have z3 : B < w3.heap.size := Nat.lt_of_lt_of_le zW B3.out.size
        clear I3
        obtain ⟨h0, h1, h2, h3, h4, h5, h6, h7, h8, h9⟩ := O3.out
        go_region_held3 (fun W => W.cell? ⟨B, 0, none⟩ = some (.int .i64 c) ∧ W.cell? ⟨B, 1, none⟩ = some (.int .i64 a) ∧ W.cell? ⟨B, 2, none⟩ = some (.int .i64 b) ∧ W.cell? ⟨B, 3, none⟩ = some (.int .i64 x) ∧ W.cell? ⟨B, 4, none⟩ = some (.int .i64 d) ∧ W.cell? ⟨B, 5, none⟩ = some c5 ∧ W.cell? ⟨B, 6, none⟩ = some c6 ∧ W.cell? ⟨B, 7, none⟩ = some c7 ∧ W.cell? ⟨B, 8, none⟩ = some c8 ∧ W.cell? ⟨B, 9, none⟩ = some c9) (go_keep)
          (first
            | (go_at_call 9; refine (X1.out _).mono ?_; rintro e w4 ⟨v4, rfl, hr4, hb4⟩
               obtain ⟨O4, B4, z4⟩ := O3.out.drew hb4 z3
               have P4 : Hid (OB w4 B c a b x d c5 c6 c7 c8 c9) := O4
               have R4 : Hid (IRow w3.drew.heap.size w4 r v4) := hr4
               clear hr4
               obtain ⟨k0, k1, k2, k3, k4, k5, k6, k7, k8, k9⟩ := O4)
            | (go_at_call 10; refine (X2.out _).mono ?_; rintro e w5 ⟨v5, rfl, hr5, hb5⟩
               obtain ⟨O5, B5, z5⟩ := P4.out.on hb5 B4 z4
               have P5 : Hid (OB w5 B c a b x d c5 c6 c7 c8 c9) := O5
               have R5 : Hid (IRow w4.heap.size w5 r v5) := hr5
               have R45 : Hid (IRow w3.drew.heap.size w5 r v4) := R4.out.below hb5 (Nat.le_refl _)
               clear hr5
               obtain ⟨l0, l1, l2, l3, l4, l5, l6, l7, l8, l9⟩ := O5)
            | (go_at_call 6; refine (eq_ints r _ _ _ _ _ R45.out R5.out XL.out).mono ?_; rintro e w6 ⟨rfl, hb6⟩
               obtain ⟨O6, B6, z6⟩ := P5.out.on hb6 B5 z5
               obtain ⟨m0, m1, m2, m3, m4, m5, m6, m7, m8, m9⟩ := O6))
        go_wp2_with fail
        go_ret
        rw [HB.out]
        exact ⟨rfl, BW.out.trans ((B3.out.trans (B6.mono B3.out.size)).mono (Nat.le_of_lt zW))⟩
set_option maxRecDepth 100000 in
theorem lifted (os : Os) (started : os.Started) (H : Type) (enc : TypeId × Value → H) :
    ReturnsInHanded {} Try.checked os 3 .any (Rows.irUsesSpec.pre6 enc Try.prog Try.f3 Rows.irUsesRow.domain false) (Rows.irUsesSpec.post enc Try.prog Try.f3 false true false false) := by
  refine returnsInHanded_of_change (C := Try.checked) own started (by kernel_rfl) Try.func3
    (ChangeSpec.witness6 (enc := enc) (C := Try.checked) false ⟨#[], #[Iq 0 0 0 0 0 (.int .i64 0) (.int .i64 0) (.int .u8 0) (.int .u64 0) (.string ⟨#[]⟩), .int .i64 0], []⟩ 8 (by kernel_rfl) (by kernel_rfl) (by kernel_rfl) (by kernel_rfl)) ?_
  intro W base args ds gs before hval0 hW hcnd _
  have hval : ∀ (j : Nat) t v, Try.f3.params[j]? = some t → args[j]? = some v → Value.okWide Try.prog W .any base t v := hval0
  have hW' := hW
  obtain ⟨p, q, hA0, hV, rfl, hfz, hnd⟩ := hW
  have hA : DataW.TrodAll enc Try.prog W 0 (fun _ => true) true Try.f3.params.toList args.toList ds p := hA0
  rw [Try.params3] at hA hval
  obtain ⟨v0, vs0, d0, ds0, p0, q0, hargs, rfl, rfl, h0, r0⟩ := trodAll_cons hA
  obtain ⟨v1, vs1, d1, ds1, p1, q1, rfl, rfl, rfl, h1, r1⟩ := trodAll_cons r0
  obtain ⟨rfl, rfl, rfl⟩ := trodAll_nil r1
  obtain rfl : args = #[v0, v1] := by cases args; simp_all
  obtain ⟨rfl, rfl⟩ := trodVars_none hV
  have k0 := h0
  have lt0 : ∀ x ∈ p0, x.block < W.heap.size := by obtain ⟨m, hm⟩ := k0; exact DataW.trod_lt m _ _ _ hm
  obtain ⟨c, a, b, x, d, c5, c6, c7, c8, c9, rfl⟩ := open_O (hval 0 27 v0 rfl rfl) h0
  obtain ⟨n, rfl, rfl, rfl, wn⟩ := open_int Try.underlying3 (hval 1 3 v1 rfl rfl) h1
  have bn := bounds_i64 wn
  clear hA0 hval0
  refine (walk c a b x d c5 c6 c7 c8 c9 n W (by omega)).mono fun e W' ⟨he, bel⟩ => ?_
  subst he
  exact ⟨_, rfl, _, _, _, [], _, [], hW', trodAll_mk1 (shut_bool Try.underlying4 _), (trodAll_cons_mk (Below.trod laidOut (by kernel_rfl) (of_decide_eq_true (by kernel_rfl)) k0 bel lt0) (trodAll_cons_mk (shut_int Try.underlying3 wn) trodAll_mk0)), rfl, bel.frame _, fun h => by cases h⟩
end Go.Proofs.Ytmbbabadlblopaa.LawUses
namespace Go.Proofs.Ytmbbabadlblopaa
/-- THE STATEMENT. -/
theorem irUses_proved : Rows.IrUsesSaid :=
  OpenClaim.holds_of_wide 3 Try.f3 rfl rfl rfl rfl rfl rfl rfl ⟨rfl, rfl, rfl, rfl, rfl⟩ rfl rfl rfl rfl rfl (by kernel_rfl) Try.func3 (by kernel_rfl)
    (of_decide_eq_true (by kernel_rfl)) (by unfold Func.isWrapper; first | (rw [if_pos (by decide +kernel)]; kernel_rfl) | (rw [if_neg (by decide +kernel)]; exact ⟨rfl, rfl⟩))
    (fun os started H enc _ => LawUses.lifted os started H enc)
end Go.Proofs.Ytmbbabadlblopaa
