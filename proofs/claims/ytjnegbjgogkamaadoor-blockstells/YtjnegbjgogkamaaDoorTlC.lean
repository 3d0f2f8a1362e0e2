/- What the document's Start answers, for whatever block; no statement of the seat is proved here. -/
import Derived.Test.YtjnegbjgogkamaaDoorRfL
import Derived.Test.YtjnegbjgogkamaaDoorBlkK
namespace Go.Proofs.YtjnegbjgogkamaaDoor
set_option linter.unusedVariables false
open Go.RowKit
theorem IrAt.same {w w' : World} {b : Nat} (h : IrAt w b) (e : w'.heap[b]? = w.heap[b]?) : IrAt w' b := by
  have q : ∀ o, w'.cell? ⟨b, o, none⟩ = w.cell? ⟨b, o, none⟩ := fun o => World.cell?_of_block (w := w) (a := ⟨b, o, none⟩) e
  exact ⟨(q 0).trans h.c0, (q 1).trans h.c1, (q 2).trans h.c2⟩
theorem IrAt.lt {w : World} {b : Nat} (h : IrAt w b) : b < w.heap.size := block_lt_of_cell h.c0
theorem IrAt.below {w w' : World} {b : Nat} (h : IrAt w b) (hb : Below w.heap.size w w') : IrAt w' b := h.same (hb.block b h.lt)
/-- How a block's cells begin, by its variables. -/
def IniOk (w : World) (n : Nat) (vf : VrF) (u : Nat → Vl) : Prop := ∀ i, i < n → (vf.ini i = .slice none 0 0 ∧ u i = ⟨vf.kd i, 0, ⟨#[]⟩⟩) ∨ (∃ b, vf.ini i = .slice (some ⟨b, 0, none⟩) 1 1 ∧ IrAt w b ∧ u i = ⟨1, 1, ⟨#[]⟩⟩)
set_option maxRecDepth 20000 in
set_option maxHeartbeats 4000000 in
theorem StartR_gen (K : Int) (n : Nat) (u : Nat → Vl) (w : World) (hn : 0 < n) (hn2 : n ≤ 100) (hV : Calls Tryd.prog 14 #[.int .i64 K] w fun e w' => ∃ g c, e = .returned (.slice (some ⟨g, 0, none⟩) n c) ∧ w.heap.size ≤ g ∧ (∃ vf, VrAt w' g n vf ∧ IniOk w' n vf u) ∧ Below w.heap.size w w') :
    Calls Tryd.prog 17 #[.int .i64 K] w fun e w' => ∃ g c, e = .returned (.slice (some ⟨g, 0, none⟩) n c) ∧ w.heap.size ≤ g ∧ Row3 w' g n u ∧ Below w.heap.size w w' := by
  have I : Hid (∃ i, Tryd.prog.info? 34 = some i ∧ i.zero = some (.agg #[.int .u8 0, .int .u64 0, .string ⟨#[]⟩]) ∧ i.size = 3 ∧ i.bytes = 32) := by
    obtain ⟨i, hi, hz⟩ := Option.map_eq_some_iff.1 (show (Tryd.prog.info? 34).map (fun i => (i.zero, i.size, i.bytes)) = some (some (.agg #[.int .u8 0, .int .u64 0, .string ⟨#[]⟩]), 3, 32) by kernel_rfl)
    simp only [Prod.mk.injEq] at hz
    exact ⟨i, hi, hz.1, hz.2.1, hz.2.2⟩
  go_enter Tryd.func17, Tryd.ntmps17
  go_wp2_with fail
  refine hV.mono ?_
  rintro e w2 ⟨g, c, rfl, hg, ⟨vf, hr, hi⟩, hb⟩
  have HB2 : Hid (Below w.heap.size w w2) := hb
  have HR : Hid (VrAt w2 g n vf) := hr
  have HI : Hid (IniOk w2 n vf u) := hi
  have zg : g < w2.heap.size := block_lt_of_cell (hr.cells 0 hn).1
  clear hb hr hi hV
  go_wp2_with fail
  go_loopw [4, 5] (fun v i wr => ∃ k : Nat, k ≤ n ∧ i = .int .i64 k ∧ wr.ownsRow w2.heap.size 34 3 v k (flV k u) ∧ Below w2.heap.size w2 wr) (fun _ i _ => n - (intOf i).toNat)
  case atStart => exact ⟨0, Nat.zero_le _, rfl, ⟨rfl, .inl ⟨rfl, rfl⟩⟩, Below.refl _ _⟩
  case round =>
    obtain ⟨k, hk, rfl, hown, hb⟩ := hrel
    have HB : Hid (Below w2.heap.size w2 wr) := hb
    have HO : Hid (wr.ownsRow w2.heap.size 34 3 _ k (flV k u)) := hown
    by_cases hlt : k < n
    · obtain ⟨e0, e1, e2, e3, e4, e5, e6, e7, e8, e9, e10, e11, e12, e13, e14, e15⟩ := (HR.out.below hb).cells k hlt
      have zr := hb.size
      have hlt' : (k : Int) < n := by omega
      have zgr : g < wr.heap.size := by omega
      clear e0 e1 e2 e4 e5 e6 e7 e8 e9 e10 e11 e13 e14 e15
      rcases HI.out k hlt with ⟨i1, i2⟩ | ⟨b, i1, i3, i2⟩
      · rw [i1] at e12
        have U : Hid (u k = ⟨vf.kd k, 0, ⟨#[]⟩⟩) := i2
        clear hown hb i1 i2
        go_wp2_with (at_builtin; obtain ⟨i, hi, hz, hs, hy⟩ := I.out; refine wpList_append_own _ rfl _ _ 30 rfl w2.heap.size 34 i _ 3 32 Tryd.underlying30 hi hz hs hy rfl (by decide) _ k _ rfl (ownsRow_below (ownsRow_below HO.out ((Below.refl _ _).alloc (Nat.le_refl _) _)) ((Below.refl _ _).alloc (Nat.le_refl _) _)) ⟨wr.heap.size + 1, 0, none⟩ 1 1 [.int .u8 (vf.kd k), .int .u64 0, .string ⟨#[]⟩] rfl rfl (last_src2 wr _ _ _) (by intro u hu; simp at hu; rcases hu with rfl | rfl | rfl <;> rfl) (by simp [maxLen]; omega) (by omega) (by simp; omega) ?_; intro v' w' k1 k2 k3; have H1 : Hid (w'.ownsRow w2.heap.size 34 3 v' (k + 1) (flV (k + 1) u)) := (by rw [flV_succ, U.out]; exact k1); have H2 : Hid _ := k2; clear k1 k2 k3 hi hz hs hy)
        exact ⟨⟨k + 1, by omega, by go_num, H1.out, ((HB.out.alloc zr _).alloc (by simp; omega) _).grown H2.out (by simp; omega) (fun g e => own_blk HO.out e)⟩, by simp [intOf]; omega⟩
      · rw [i1] at e12
        obtain ⟨j0, j1, j2⟩ := i3.below hb
        have zb : b < wr.heap.size := block_lt_of_cell j0
        have nb1 : ¬ b = wr.heap.size := by omega
        have nb2 : ¬ wr.heap.size = b := by omega
        have U : Hid (u k = ⟨1, 1, ⟨#[]⟩⟩) := i2
        clear hown hb i1 i2 i3
        go_wp2_with (at_builtin; obtain ⟨i, hi, hz, hs, hy⟩ := I.out; refine wpList_append_own _ rfl _ _ 30 rfl w2.heap.size 34 i _ 3 32 Tryd.underlying30 hi hz hs hy rfl (by decide) _ k _ rfl (ownsRow_below (ownsRow_below HO.out ((Below.refl _ _).alloc (Nat.le_refl _) _)) ((Below.refl _ _).alloc (Nat.le_refl _) _)) ⟨wr.heap.size + 1, 0, none⟩ 1 1 [.int .u8 1, .int .u64 1, .string ⟨#[]⟩] rfl rfl (last_src2 wr _ _ _) (by intro u hu; simp at hu; rcases hu with rfl | rfl | rfl <;> rfl) (by simp [maxLen]; omega) (by omega) (by simp; omega) ?_; intro v' w' k1 k2 k3; have H1 : Hid (w'.ownsRow w2.heap.size 34 3 v' (k + 1) (flV (k + 1) u)) := (by rw [flV_succ, U.out]; exact k1); have H2 : Hid _ := k2; clear k1 k2 k3 hi hz hs hy)
        exact ⟨⟨k + 1, by omega, by go_num, H1.out, ((HB.out.alloc zr _).alloc (by simp; omega) _).grown H2.out (by simp; omega) (fun g e => own_blk HO.out e)⟩, by simp [intOf]; omega⟩
    · have ek : k = n := by omega
      subst ek
      clear hown hb
      go_wp2
      obtain ⟨g', c', rfl, hg', hr'⟩ := own_row HO.out hn
      go_ret
      exact ⟨g', c', rfl, Nat.le_trans HB2.out.size hg', hr', HB2.out.trans (HB.out.mono HB2.out.size)⟩
end Go.Proofs.YtjnegbjgogkamaaDoor
