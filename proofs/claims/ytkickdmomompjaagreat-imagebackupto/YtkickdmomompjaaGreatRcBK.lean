/- The walk of ImageBack; no statement of the seat is proved here. -/
import Derived.Test.YtkickdmomompjaaGreatRcEK
import Derived.Test.YtkickdmomompjaaGreatImGK
namespace Go.Proofs.YtkickdmomompjaaGreat
set_option linter.unusedVariables false
set_option linter.unusedSimpArgs false
open Go.RowKit
set_option maxRecDepth 20000 in
set_option maxHeartbeats 8000000 in
theorem imback_walk (m : ImR) (x1 x2 x3 : Option Addr) (p1 p2 p3 : Nat) (w : World) (ha : ImQ (fun b => b < w.heap.size) w m x1 x2 x3) (ho : ImOk m) :
    Calls Tryz.prog 3 #[.agg #[.string m.nm, .slice x1 m.cs.length p1, .slice x2 m.fs.length p2, .slice x3 m.js.length p3]] w fun e w' => e = .returned (.bool true) ∧ Below w.heap.size w w' := by
  have OK : Hid (ImOk m) := ho
  obtain ⟨AW, eW⟩ : ∃ AW, AW = w.alloc (.cells #[.string m.nm, .slice x1 m.cs.length p1, .slice x2 m.fs.length p2, .slice x3 m.js.length p3] 26 (0, 0)) := ⟨_, rfl⟩
  have AB : Hid (Below w.heap.size w AW) := by rw [eW]; exact alB _ _
  have AX : Hid (AW.heap[w.heap.size]? = some (.cells #[.string m.nm, .slice x1 m.cs.length p1, .slice x2 m.fs.length p2, .slice x3 m.js.length p3] 26 (0, 0))) := by rw [eW]; exact heap_alloc_last _ _
  have XA : Hid (∀ V, Below AW.heap.size AW V → V.heap[w.heap.size]? = some (.cells #[.string m.nm, .slice x1 m.cs.length p1, .slice x2 m.fs.length p2, .slice x3 m.js.length p3] 26 (0, 0))) := fun V h => (h.block _ (blk_in' AX.out)).trans AX.out
  have QA : Hid (∀ V, Below AW.heap.size AW V → ImQ (fun b => b < V.heap.size) V m x1 x2 x3) := fun V h => ha.old (AB.out.trans (h.mono AB.out.size))
  have BA : Hid (∀ V, Below AW.heap.size AW V → Below w.heap.size w V) := fun V h => AB.out.trans (h.mono AB.out.size)
  have CK : Hid (∀ V, Below AW.heap.size AW V → Calls Tryz.prog 5 #[.agg #[.string m.nm, .slice x1 m.cs.length p1, .slice x2 m.fs.length p2, .slice x3 m.js.length p3]] V fun e w' => e = .returned (.tuple #[.int .i64 (chk m).1, .int .i64 (chk m).2.1, .int .i64 (chk m).2.2]) ∧ Below V.heap.size V w') := fun V h => CheckI_of m x1 x2 x3 p1 p2 p3 V (fun b q => q) (QA.out V h) OK.out
  have EN : Hid (Calls Tryz.prog 4 #[.agg #[.string m.nm, .slice x1 m.cs.length p1, .slice x2 m.fs.length p2, .slice x3 m.js.length p3]] AW fun e w' => ((∃ er : Int, ((er = (chk m).2.2 ∧ er ≠ 0) ∨ ((chk m).2.2 = 0 ∧ er = 4)) ∧ e = .returned (.tuple #[.slice none 0 0, .int .i64 er])) ∨ (∃ y d, ((chk m).2.2 = 0 ∧ (imbN m).length + 4 ≤ 4194304) ∧ e = .returned (.tuple #[.slice y (fileN m).length d, .int .i64 0]) ∧ Sb AW.heap.size (fileN m) (.slice y (fileN m).length d) w')) ∧ Below AW.heap.size AW w') := by
    by_cases hc : (chk m).2.2 = 0
    · by_cases hg : 4194304 < (imbN m).length + 4
      · exact (EncodeX_1 m x1 x2 x3 p1 p2 p3 AW (fun b q => q) (QA.out AW (Below.refl _ _)) ho hc hg).mono fun e w' ⟨he, hb⟩ => ⟨.inl ⟨4, .inr ⟨hc, rfl⟩, he⟩, hb⟩
      · exact (EncodeY m x1 x2 x3 p1 p2 p3 AW (fun b q => q) (QA.out AW (Below.refl _ _)) ho hc (by omega)).mono fun e w' ⟨⟨y, d, he, hs⟩, hb⟩ => ⟨.inr ⟨y, d, ⟨hc, by omega⟩, he, hs⟩, hb⟩
    · exact (EncodeX_0 m x1 x2 x3 p1 p2 p3 AW (fun b q => q) (QA.out AW (Below.refl _ _)) ho hc).mono fun e w' ⟨he, hb⟩ => ⟨.inl ⟨_, .inl ⟨rfl, hc⟩, he⟩, hb⟩
  clear ha ho
  obtain ⟨i0, i1, i2, i3⟩ := cellsD AX.out
  go_enter Tryz.func3, Tryz.ntmps3
  go_upto_region 1 with fail
  rw [← eW]
  clear eW AX
  go_wp2_with fail
  refine (EN.out).mono ?_
  rintro e w1 ⟨he, hb1⟩
  have B1 : Hid (Below AW.heap.size AW w1) := hb1
  clear hb1 i0 i1 i2 i3 EN
  rcases he with ⟨er, hn, rfl⟩ | ⟨y, d, hc, rfl, hs⟩
  · go_upto_region 2 with fail
    obtain ⟨i0, i1, i2, i3⟩ := cellsD (XA.out w1 B1.out)
    go_wp2_with fail
    refine (CK.out w1 B1.out).mono ?_
    rintro e w2 ⟨rfl, hb2⟩
    have B2 : Hid (Below AW.heap.size AW w2) := B1.out.trans (hb2.mono B1.out.size)
    clear hb2 i0 i1 i2 i3
    rcases hn with ⟨e1, e2⟩ | ⟨e1, rfl⟩
    · rw [← e1]
      clear e1
      have q1 : (er == er) = true := beq_self_eq_true _
      go_wp2_with fail
      refine (awake_of _).mono ?_
      rintro e w8 ⟨rfl, hb8⟩
      have B8 : Hid (Below AW.heap.size AW w8) := B2.out.trans (hb8.mono B2.out.size)
      clear hb8
      go_wp2
      go_ret
      exact ⟨by first | rfl | simp, BA.out _ B8.out⟩
    · rw [e1]
      clear e1
      go_wp2_with fail
      refine (awake_of _).mono ?_
      rintro e w8 ⟨rfl, hb8⟩
      have B8 : Hid (Below AW.heap.size AW w8) := B2.out.trans (hb8.mono B2.out.size)
      clear hb8
      go_wp2
      go_ret
      exact ⟨by first | rfl | simp, BA.out _ B8.out⟩
  · obtain ⟨f1, f2, f3, f4⟩ := file_ok OK.out hc.1 hc.2
    have hc1 := hc.1
    have P1 : Hid (∀ V, Below w1.heap.size w1 V → Calls Tryz.prog 7 #[.slice y (fileN m).length d] V fun e w' => (∃ z, e = .returned (.tuple #[z, .int .i64 0, .int .i64 0]) ∧ DecZ m 0 V.heap.size w' z) ∧ Below V.heap.size V w') := fun V hV => by
      have q := DecodeX y d (fileN m) V f3 (hs.bysl.up hV) hs.cap
      rw [f1, f2] at q
      exact q
    generalize (fileN m) = l at *
    clear hc hs f1 f2 f3 f4
    go_upto_region 2 with fail
    obtain ⟨i0, i1, i2, i3⟩ := cellsD (XA.out w1 B1.out)
    go_wp2_with fail
    refine (CK.out w1 B1.out).mono ?_
    rintro e w2 ⟨rfl, hb2⟩
    have B2 : Hid (Below AW.heap.size AW w2) := B1.out.trans (hb2.mono B1.out.size)
    have D2 : Hid (Below w1.heap.size w1 w2) := hb2
    rw [hc1]
    clear hb2 i0 i1 i2 i3 hc1
    go_wp2_with fail
    refine (P1.out _ D2.out).mono ?_
    rintro e w4 ⟨⟨z, rfl, hz⟩, hb4⟩
    obtain ⟨m1, y1, c1, y2, c2, y3, c3, e1, rfl, hq⟩ := hz.im
    have em : m1 = m := by rw [e1, if_pos rfl]
    subst em
    have B4 : Hid (Below AW.heap.size AW w4) := B2.out.trans (hb4.mono B2.out.size)
    have Q4 : Hid (ImQ (fun b => b < w4.heap.size) w4 m1 y1 y2 y3) := hq
    clear hb4 hq hz e1 P1 D2
    go_upto_region 6 with fail
    obtain ⟨V4, eV⟩ : ∃ V, V = w4.alloc (.cells #[.string m1.nm, .slice y1 m1.cs.length c1, .slice y2 m1.fs.length c2, .slice y3 m1.js.length c3] 26 (0, 0)) := ⟨_, rfl⟩
    obtain ⟨g2, eg⟩ : ∃ g, g = w4.heap.size := ⟨_, rfl⟩
    rw [← eV]
    try rw [← eg]
    have A4 : Below w4.heap.size w4 V4 := by rw [eV]; exact alB _ _
    have B5 : Hid (Below AW.heap.size AW V4) := B4.out.trans (A4.mono B4.out.size)
    have Q5 : Hid (ImQ (fun b => b < V4.heap.size) V4 m1 y1 y2 y3) := Q4.out.old A4
    have Y5 : Hid (V4.heap[g2]? = some (.cells #[.string m1.nm, .slice y1 m1.cs.length c1, .slice y2 m1.fs.length c2, .slice y3 m1.js.length c3] 26 (0, 0))) := by rw [eV, eg]; exact heap_alloc_last _ _
    have Y6 : Hid (∀ V, Below V4.heap.size V4 V → V.heap[g2]? = some (.cells #[.string m1.nm, .slice y1 m1.cs.length c1, .slice y2 m1.fs.length c2, .slice y3 m1.js.length c3] 26 (0, 0))) := fun V h => (h.block _ (blk_in' Y5.out)).trans Y5.out
    clear A4 eV eg Q4 Y5 B2 B1
    have em : decide (m1 = m1) = true := by simp
    obtain ⟨i0, i1, i2, i3⟩ := cellsD (XA.out _ B5.out)
    obtain ⟨j0, j1, j2, j3⟩ := cellsD (Y6.out _ (Below.refl _ _))
    go_wp2_with fail
    refine (SameImage_of m1 m1 x1 x2 x3 y1 y2 y3 p1 p2 p3 c1 c2 c3 _ (fun b q => q) (QA.out _ B5.out) Q5.out).mono ?_
    first | (rintro e w6 ⟨he, hb6⟩) | (rintro e w6 he hb6)
    subst he
    rw [show decide (m1 = m1) = true from decide_eq_true rfl]
    have B6 : Hid (Below AW.heap.size AW w6) := B5.out.trans (hb6.mono B5.out.size)
    have Q6 : Hid (ImQ (fun b => b < w6.heap.size) w6 m1 y1 y2 y3) := Q5.out.old hb6
    have D6 : Hid (Below V4.heap.size V4 w6) := hb6
    clear hb6 i0 i1 i2 i3 j0 j1 j2 j3 Q5
    obtain ⟨i0, i1, i2, i3⟩ := cellsD (XA.out _ B6.out)
    obtain ⟨j0, j1, j2, j3⟩ := cellsD (Y6.out _ D6.out)
    go_wp2_with fail
    refine (SameI_im m1 m1 x1 x2 x3 y1 y2 y3 p1 p2 p3 c1 c2 c3 _ (fun b q => q) (QA.out _ B6.out) Q6.out).mono ?_
    first | (rintro e w7 ⟨he, hb7⟩) | (rintro e w7 he hb7)
    subst he
    rw [show decide (m1 = m1) = true from decide_eq_true rfl]
    have B7 : Hid (Below AW.heap.size AW w7) := B6.out.trans (hb7.mono B6.out.size)
    clear hb7 i0 i1 i2 i3 j0 j1 j2 j3
    go_wp2_with fail
    refine (awake_of _).mono ?_
    rintro e w8 ⟨rfl, hb8⟩
    have B8 : Hid (Below AW.heap.size AW w8) := B7.out.trans (hb8.mono B7.out.size)
    clear hb8
    go_wp2
    go_ret
    exact ⟨by first | rfl | simp, BA.out _ B8.out⟩
end Go.Proofs.YtkickdmomompjaaGreat
