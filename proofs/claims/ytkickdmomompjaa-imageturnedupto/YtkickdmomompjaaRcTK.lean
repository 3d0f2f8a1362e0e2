/- The walk of ImageTurned; no statement of the seat is proved here. -/
import Derived.Test.YtkickdmomompjaaRcEK
namespace Go.Proofs.Ytkickdmomompjaa
set_option linter.unusedVariables false
set_option linter.unusedSimpArgs false
open Go.RowKit
theorem set_bel {B : Nat} {w V : World} {g : Nat} (h : Below B w V) (hg : B ≤ g) (k : Nat) (v : Value) : Below B w (V.setCell ⟨g, k, none⟩ v) := by
  refine h.trans ⟨rfl, rfl, rfl, by simp [World.setCell], fun j hj => ?_⟩
  show (V.setCell ⟨g, k, none⟩ v).heap[j]? = V.heap[j]?
  unfold World.setCell
  simp [Array.getElem?_modify]
  intro e
  omega
set_option maxRecDepth 20000 in
set_option maxHeartbeats 8000000 in
theorem imturned_walk (m : ImR) (x1 x2 x3 : Option Addr) (p1 p2 p3 : Nat) (at_ : Int) (x : Nat) (w : World) (ha : ImQ (fun b => b < w.heap.size) w m x1 x2 x3) (ho : ImOk m) (h0 : 0 ≤ at_) (h1 : at_ < 18446744073709551616) (hx : x < 256) :
    Calls Try.prog 4 #[.agg #[.string m.nm, .slice x1 m.cs.length p1, .slice x2 m.fs.length p2, .slice x3 m.js.length p3], .int .u64 at_, .int .u8 (x : Int)] w fun e w' => e = .returned (.bool true) ∧ Below w.heap.size w w' := by
  have OK : Hid (ImOk m) := ho
  have AT : Hid (0 ≤ at_ ∧ at_ < 18446744073709551616) := ⟨h0, h1⟩
  have X8 : Hid (x < 256) := hx
  obtain ⟨AW, eW⟩ : ∃ AW, AW = w.alloc (.cells #[.string m.nm, .slice x1 m.cs.length p1, .slice x2 m.fs.length p2, .slice x3 m.js.length p3] 27 (0, 0)) := ⟨_, rfl⟩
  have AB : Hid (Below w.heap.size w AW) := by rw [eW]; exact alB _ _
  have AX : Hid (AW.heap[w.heap.size]? = some (.cells #[.string m.nm, .slice x1 m.cs.length p1, .slice x2 m.fs.length p2, .slice x3 m.js.length p3] 27 (0, 0))) := by rw [eW]; exact heap_alloc_last _ _
  have EN : Hid (Calls Try.prog 8 #[.agg #[.string m.nm, .slice x1 m.cs.length p1, .slice x2 m.fs.length p2, .slice x3 m.js.length p3]] AW fun e w' => ((∃ er : Int, er ≠ 0 ∧ e = .returned (.tuple #[.slice none 0 0, .int .i64 er])) ∨ (∃ y d, ((chk m).2.2 = 0 ∧ (imbN m).length + 4 ≤ 4194304) ∧ e = .returned (.tuple #[.slice y (fileN m).length d, .int .i64 0]) ∧ Sb AW.heap.size (fileN m) (.slice y (fileN m).length d) w')) ∧ Below AW.heap.size AW w') := EncodeW m x1 x2 x3 p1 p2 p3 AW (fun b q => q) (ha.old AB.out) ho
  clear ha ho h0 h1 hx
  obtain ⟨i0, i1, i2, i3⟩ := cellsD AX.out
  go_enter Try.func4, Try.ntmps4
  go_upto_region 1 with fail
  rw [← eW]
  clear eW
  go_wp2_with fail
  refine (EN.out).mono ?_
  rintro e w1 ⟨he, hb1⟩
  have B1 : Hid (Below w.heap.size w w1) := AB.out.trans (hb1.mono AB.out.size)
  clear hb1 i0 i1 i2 i3 EN AX
  rcases he with ⟨er, hn, rfl⟩ | ⟨y, d, hc, rfl, hs⟩
  · go_wp2_with fail
    refine (awake_of _).mono ?_
    rintro e w8 ⟨rfl, hb8⟩
    have B8 : Hid (Below w.heap.size w w8) := B1.out.trans (hb8.mono B1.out.size)
    clear hb8
    go_wp2
    go_ret
    exact ⟨by first | rfl | simp, B8.out⟩
  · obtain ⟨f1, f2, f3, f4⟩ := file_ok OK.out hc.1 hc.2
    have FD : Hid (decE (fileN m) = (0, 0)) := f2
    have F8 : Hid (∀ b ∈ fileN m, b < 256) := f3
    have TN : Hid (∀ (k y : Nat), (fileN m)[k]? = some y → (decE ((fileN m).set k x)).2 = 0 → x = y) := fun k y hk h => turned f3 X8.out hk h
    have LN : Hid ((fileN m).length ≤ 4194304) := by show _ ≤ _; rw [fileN_len]; exact hc.2
    have S1 : Hid (Sb AW.heap.size (fileN m) (.slice y (fileN m).length d) w1) := hs
    clear hc hs f1 f2 f3
    generalize (fileN m) = l at *
    obtain ⟨g, cur, ey, hg, hgc⟩ := S1.out.row (by omega)
    subst ey
    have HB : Hid (BySl (some ⟨g, 0, none⟩) l w1) := S1.out.bysl
    have nz : ¬ (l.length : Int) = 0 := by omega
    have nz' : ¬ l.length = 0 := by omega
    have L8 : Hid (8 ≤ l.length) := f4
    clear S1 hgc hg f4
    obtain ⟨n, en⟩ : ∃ n : Int, n = (l.length : Int) := ⟨_, rfl⟩
    obtain ⟨k, ek⟩ : ∃ k : Nat, (k : Int) = at_ % (l.length : Int) := ⟨(at_ % (l.length : Int)).toNat, Int.toNat_of_nonneg (Int.emod_nonneg _ nz)⟩
    have KL : Hid (k < l.length) := by show k < _; have := Int.emod_lt_of_pos at_ (show 0 < (l.length : Int) by omega); omega
    have kl := KL.out
    have f1 : (l.length : Int) % 18446744073709551616 = l.length := by have := LN.out; omega
    have f1' : IntKind.u64.wrap (l.length : Int) = l.length := by rw [u64_wrap]; exact f1
    have f2 : at_.tmod (l.length : Int) = (k : Int) := by rw [Int.tmod_eq_emod_of_nonneg AT.out.1]; exact ek.symm
    have f2' : at_ % (l.length : Int) = (k : Int) := ek.symm
    have f3 : wrap64 (k : Int) = k := by have := LN.out; unfold wrap64; omega
    have f4 : (k : Int) % 18446744073709551616 = k := by have := LN.out; omega
    have f4' : IntKind.u64.wrap (k : Int) = k := by rw [u64_wrap]; exact f4
    clear ek
    go_upto_region 5 with fail
    rw [f3]
    clear f1 f1' f2 f2' f3 f4 f4' AT
    have CL : Hid (Calls Try.prog 10 #[.slice (some ⟨g, 0, none⟩) l.length d] w1 fun e w' => (∃ y d, e = .returned (.slice y l.length d) ∧ Sb w1.heap.size l (.slice y l.length d) w') ∧ Below w1.heap.size w1 w') := CloneS _ _ l w1 HB.out (by have := LN.out; omega)
    go_wp2_with fail
    refine (CL.out).mono ?_
    rintro e w2 ⟨⟨y2, d2, rfl, hs⟩, hb2⟩
    obtain ⟨g2, cur2, ey, hg2, hgc2⟩ := hs.row (by have := L8.out; omega)
    subst ey
    obtain ⟨yk, hyk⟩ : ∃ y, l[k]? = some y := ⟨_, List.getElem?_eq_getElem kl⟩
    have B2 : Hid (Below w.heap.size w w2) := B1.out.trans (hb2.mono B1.out.size)
    have HB2 : Hid (BySl (some ⟨g, 0, none⟩) l w2) := HB.out.up hb2
    have G2 : Hid (w1.heap.size ≤ g2 ∧ g2 < w2.heap.size) := ⟨hg2, blk_in' hgc2⟩
    have ST : Hid (BySl (some ⟨g2, 0, none⟩) (l.set k x) (w2.setCell ⟨g2, k, none⟩ (.int .u8 (x : Int)))) := byte_set hs hgc2 k x kl
    have DC : Hid (l.length ≤ d2) := hs.cap
    have c2 : w2.cell? ⟨g2, k, none⟩ = some (.int .u8 (yk : Int)) := by
      obtain ⟨kb, o, e, _, h⟩ := hs.bysl k yk hyk
      cases e
      rw [Nat.zero_add] at h
      exact h
    have fz : w2.frozen? ⟨g2, k, none⟩ = false := by simp [World.frozen?, hgc2]
    have kn : (k : Int) < l.length := by omega
    clear hs hg2 hgc2 hb2 CL
    go_upto_region 7 with fail
    clear c2 fz
    have B3 : Hid (Below w.heap.size w (w2.setCell ⟨g2, k, none⟩ (.int .u8 (x : Int)))) := set_bel B2.out (Nat.le_trans B1.out.size G2.out.1) _ _
    have HB3 : Hid (BySl (some ⟨g, 0, none⟩) l (w2.setCell ⟨g2, k, none⟩ (.int .u8 (x : Int)))) := fun j b hj => by
      obtain ⟨kb, o, e, h1, h2⟩ := HB2.out j b hj
      obtain ⟨kb', o', e', h1', _⟩ := HB.out j b hj
      cases e
      cases e'
      refine ⟨g, 0, rfl, by simpa [World.setCell] using h1, ?_⟩
      rw [World.cell?_setCell_other _ _ _ _ (by intro q; cases q; have := G2.out.1; omega)]
      exact h2
    generalize w2.setCell ⟨g2, k, none⟩ (.int .u8 (x : Int)) = W3 at *
    have P1 : Hid (Calls Try.prog 6 #[.slice (some ⟨g2, 0, none⟩) l.length d2] W3 fun e w' => (∃ z, e = .returned (.tuple #[z, .int .i64 (decE (l.set k x)).1, .int .i64 (decE (l.set k x)).2]) ∧ DecZ (decM (l.set k x)) (decE (l.set k x)).2 W3.heap.size w' z) ∧ Below W3.heap.size W3 w') := by
      have q := DecodeX (some ⟨g2, 0, none⟩) d2 (l.set k x) W3 (fun b hb => by
        rcases List.mem_or_eq_of_mem_set hb with z | z
        · exact F8.out b z
        · rw [z]; exact X8.out) ST.out (by rw [List.length_set]; exact DC.out)
      rw [List.length_set] at q
      exact q
    have BQ : Hid ((decE (l.set k x)).2 = 0 ↔ x = yk) := by
      refine ⟨fun h => TN.out k yk hyk h, fun h => ?_⟩
      have e : l.set k x = l := by
        rw [h]
        exact (List.getElem?_eq_some_iff.1 hyk).2 ▸ List.set_getElem_self kl
      rw [e, FD.out]
    generalize (decE (l.set k x)).1 = a2 at *
    generalize (decE (l.set k x)).2 = b2 at *
    generalize (decM (l.set k x)) = m2 at *
    clear TN FD F8 ST HB2 HB
    go_wp2_with fail
    refine (P1.out).mono ?_
    rintro e w4 ⟨⟨z, rfl, hz⟩, hb4⟩
    obtain ⟨m1, y1, c1, y2, c2, y3, c3, e1, rfl, hq⟩ := hz.im
    have B4 : Hid (Below w.heap.size w w4) := B3.out.trans (hb4.mono B3.out.size)
    have HB4 : Hid (BySl (some ⟨g, 0, none⟩) l w4) := HB3.out.up hb4
    clear hb4 hq hz e1 P1 B3 HB3
    go_upto_region 8 with fail
    obtain ⟨V4, eV⟩ : ∃ V, V = w4.alloc (.cells #[.string m1.nm, .slice y1 m1.cs.length c1, .slice y2 m1.fs.length c2, .slice y3 m1.js.length c3] 27 (0, 0)) := ⟨_, rfl⟩
    rw [← eV]
    have A4 : Below w4.heap.size w4 V4 := by rw [eV]; exact alB _ _
    have B5 : Hid (Below w.heap.size w V4) := B4.out.trans (A4.mono B4.out.size)
    have c5 : V4.cell? ⟨g, k, none⟩ = some (.int .u8 (yk : Int)) := by
      obtain ⟨kb, o, e, _, h⟩ := (HB4.out.up A4) k yk hyk
      cases e
      rw [Nat.zero_add] at h
      exact h
    clear A4 eV B4 HB4
    by_cases q : x = yk
    · have qb : b2 = 0 := BQ.out.2 q
      subst qb
      have qx : ((x : Int) == (yk : Int)) = true := by rw [q]; exact beq_self_eq_true _
      have qx' : (x : Int) = yk := by rw [q]
      clear BQ
      go_wp2_with fail
      refine (awake_of _).mono ?_
      rintro e w8 ⟨rfl, hb8⟩
      have B8 : Hid (Below w.heap.size w w8) := B5.out.trans (hb8.mono B5.out.size)
      clear hb8
      go_wp2
      go_ret
      exact ⟨by first | rfl | simp, B8.out⟩
    · have qb : ¬ b2 = 0 := fun z => q (BQ.out.1 z)
      have qx : ((x : Int) == (yk : Int)) = false := by rw [beq_eq_false_iff_ne]; omega
      have qx' : ¬ (x : Int) = yk := by omega
      have qz : (b2 == 0) = false := by rw [beq_eq_false_iff_ne]; exact qb
      clear BQ
      go_wp2_with fail
      refine (awake_of _).mono ?_
      rintro e w8 ⟨rfl, hb8⟩
      have B8 : Hid (Below w.heap.size w w8) := B5.out.trans (hb8.mono B5.out.size)
      clear hb8
      go_wp2
      go_ret
      exact ⟨by first | rfl | simp, B8.out⟩
end Go.Proofs.Ytkickdmomompjaa
