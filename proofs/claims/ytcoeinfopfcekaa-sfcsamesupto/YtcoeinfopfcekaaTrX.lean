/- Statements in a row copied: the walk; no statement of the seat is proved here. -/
import Derived.Test.YtcoeinfopfcekaaTrW
import Derived.Test.YtcoeinfopfcekaaTrV
import Derived.Test.YtcoeinfopfcekaaRgJ
import Derived.Deep.DeepCutAuto
namespace Go.Proofs.Ytcoeinfopfcekaa
set_option linter.unusedVariables false
open Go.RowKit
/-- What copying statements answers. -/
def CsL (d : Nat) : Prop := ∀ (w : World) (x : Option Addr) (l : List St) (c : Nat), StL (fun b => b < w.heap.size) d w x l → Calls Try.prog 11 #[.slice x l.length c] w fun r w' => (∃ y c', r = .returned (.slice y l.length c') ∧ StL (Fresh w.heap.size w'.heap.size) d w' y l) ∧ Below w.heap.size w w'
/-- A statement's box. -/
abbrev SO (h : SH) (a1 a2 a3 a4 a5 a6 a7 : Value) : Obj := .cells #[.int .i64 h.op, .int .i64 h.pl, .string h.nm, .int .i64 h.nu, a1, a2, a3, a4, a5, a6, a7, .int .u8 h.kd, .int .i64 h.ar, .int .i64 h.rf] 65 (0, 0)
theorem infoS : ∃ i z, Try.prog.info? 65 = some i ∧ i.zero = some z ∧ i.size = 14 ∧ i.bytes = 232 ∧ z.cells.size = 14 := by
  obtain ⟨i, hi, hz⟩ := Option.map_eq_some_iff.1 (show (Try.prog.info? 65).map (fun i => (i.zero.map (·.cells.size), i.size, i.bytes)) = some (some 14, 14, 232) by kernel_rfl)
  simp only [Prod.mk.injEq] at hz
  obtain ⟨z, h1, h2⟩ := Option.map_eq_some_iff.1 hz.1
  exact ⟨i, z, hi, h1, hz.2.1, hz.2.2, h2⟩
theorem st_info : (Try.prog.info? 65).map (·.size) = some 14 := by kernel_rfl
theorem fr_up {a b G : Nat} {w v : World} (h : ∀ k, G + 1 ≤ k → k < b → v.heap[k]? = w.heap[k]?) (ha : G + 1 ≤ a) : FrS (Fresh a b) w v := fun q hq => World.cell?_of_block (h _ (Nat.le_trans ha hq.1) hq.2)
theorem NmF.up {a b a' b' : Nat} {w : World} {y : Option Addr} {l : List ByteArray} (h : NmF (Fresh a b) w y l) (h1 : a' ≤ a) (h2 : b ≤ b') : NmF (Fresh a' b') w y l := h.sub fun _ q => ⟨Nat.le_trans h1 q.1, Nat.lt_of_lt_of_le q.2 h2⟩
theorem KdF.up {a b a' b' d : Nat} {w : World} {y : Option Addr} {l : List Ex} (h : KdF (Fresh a b) d w y l) (h1 : a' ≤ a) (h2 : b ≤ b') : KdF (Fresh a' b') d w y l := h.sub fun _ q => ⟨Nat.le_trans h1 q.1, Nat.lt_of_lt_of_le q.2 h2⟩
theorem RgF.up {a b a' b' : Nat} {w : World} {y : Option Addr} {l : List (Int × Int)} (h : RgF (Fresh a b) w y l) (h1 : a' ≤ a) (h2 : b ≤ b') : RgF (Fresh a' b') w y l := h.sub fun _ q => ⟨Nat.le_trans h1 q.1, Nat.lt_of_lt_of_le q.2 h2⟩
theorem StL.up {a b a' b' d : Nat} {w : World} {y : Option Addr} {l : List St} (h : StL (Fresh a b) d w y l) (h1 : a' ≤ a) (h2 : b ≤ b') : StL (Fresh a' b') d w y l := h.sub fun _ q => ⟨Nat.le_trans h1 q.1, Nat.lt_of_lt_of_le q.2 h2⟩
set_option maxRecDepth 20000 in
set_option maxHeartbeats 8000000 in
theorem csL_of (d : Nat) (X : CsL d) : CsL (d + 1) := by
  intro w x l c hk
  have HX : Hid (CsL d) := X
  have HA : Hid (StL (fun b => b < w.heap.size) (d + 1) w x l) := hk
  clear X hk
  go_enter Try.func11, Try.ntmps11
  go_wp2_with fail
  go_loopw [3, 8] (fun out i wr => ∃ k : Nat, k ≤ l.length ∧ i = .int .i64 k ∧ Below w.heap.size w wr ∧ CsI d w l k out wr) (fun _ i _ => l.length - (intOf i).toNat)
  case atStart => exact ⟨0, Nat.zero_le _, rfl, Below.refl _ _, CsI.zero _ _ _⟩
  case round =>
    obtain ⟨k, hk, rfl, hbw, hcp⟩ := hrel
    have HW : Hid (Below w.heap.size w wr) := hbw
    by_cases hlt : k < l.length
    · obtain ⟨hs, ehs, how, hev⟩ := hcp
      have EHS : Hid _ := ehs
      have OW : Hid (wr.ownsRow w.heap.size 65 14 u3 k (scL hs)) := how
      have EV' : Hid _ := hev
      clear ehs how hev
      obtain ⟨a, rfl⟩ : ∃ a, x = some a := by
        cases x with
        | none => have := HA.out.2.1 rfl; rw [this] at hlt; exact absurd hlt (Nat.not_lt_zero _)
        | some a => exact ⟨a, rfl⟩
      obtain ⟨h1, es1, ns1, os1, on1, rs1, b1, e1, p10, q10, p11, q11, p12, q12, p13, q13, p14, q14, p15, q15, p16, q16, ee1, hp1, ec1, ev1⟩ := (HA.out.fr (old_fr hbw)).el k hlt
      have E1 : Hid _ := ee1
      have V1 : Hid (SvF (fun b => b < w.heap.size) d wr (SV h1 (.slice p10 es1.length q10) (.slice p11 ns1.length q11) (.slice p12 os1.length q12) (.slice p13 on1.length q13) (.slice p14 rs1.length q14) (.slice p15 b1.length q15) (.slice p16 e1.length q16)) (St.mk h1 es1 ns1 os1 on1 rs1 b1 e1)) := ev1
      have LT : Hid _ := hlt
      have kl : (k : Int) < l.length := by omega
      obtain ⟨x0, x1, x2, x3, x4, x5, x6, x7, x8, x9, x10, x11, x12, x13⟩ := ec1
      clear hbw hlt ee1 ev1 hp1
      have za := block_lt_of_cell x0
      go_upto_region 5 with fail
      obtain ⟨AW, eW⟩ : ∃ AW, AW = wr.alloc (SO h1 (.slice p10 es1.length q10) (.slice p11 ns1.length q11) (.slice p12 os1.length q12) (.slice p13 on1.length q13) (.slice p14 rs1.length q14) (.slice p15 b1.length q15) (.slice p16 e1.length q16)) := ⟨_, rfl⟩
      have AX : Hid (AW.heap[wr.heap.size]? = some (SO h1 (.slice p10 es1.length q10) (.slice p11 ns1.length q11) (.slice p12 os1.length q12) (.slice p13 on1.length q13) (.slice p14 rs1.length q14) (.slice p15 b1.length q15) (.slice p16 e1.length q16))) := by rw [eW]; exact heap_alloc_last _ _
      have AB : Hid (Below wr.heap.size wr AW) := by rw [eW]; exact (Below.refl _ _).alloc (Nat.le_refl _) _
      have AS : AW.heap.size = wr.heap.size + 1 := by rw [eW]; simp
      rw [← eW]
      clear eW x0 x1 x2 x3 x4 x5 x6 x7 x8 x9 x10 x11 x12 x13 za
      have FR : Hid (∀ W, Below wr.heap.size wr W → FrS (fun b => b < w.heap.size) wr W) := fun W hb q hq => hb.cell (Nat.lt_of_lt_of_le hq HW.out.size)
      obtain ⟨j1, ⟨j2, g2⟩, j3, ⟨j4, g4⟩, ⟨j5, g5⟩, j6, j7⟩ := SvF.parts V1.out
      have Q0 : Hid (∀ W, Below wr.heap.size wr W → Calls Try.prog 26 #[.slice p10 es1.length q10] W fun r w' => (∃ y c', r = .returned (.slice y es1.length c') ∧ KdF (Fresh W.heap.size w'.heap.size) d w' y es1) ∧ Below W.heap.size W w') := fun W hb => cpL_any d W _ es1 _ (j1.fr (FR.out W hb)).at
      have Q2 : Hid (∀ W, Below wr.heap.size wr W → Calls Try.prog 26 #[.slice p12 os1.length q12] W fun r w' => (∃ y c', r = .returned (.slice y os1.length c') ∧ KdF (Fresh W.heap.size w'.heap.size) d w' y os1) ∧ Below W.heap.size W w') := fun W hb => cpL_any d W _ os1 _ (j3.fr (FR.out W hb)).at
      have Q1 : Hid (∀ W, Below wr.heap.size wr W → Calls Try.prog 9 #[.slice p11 ns1.length q11] W fun r w' => (∃ y c', r = .returned (.slice y ns1.length c') ∧ NmF (Fresh W.heap.size w'.heap.size) w' y ns1) ∧ Below W.heap.size W w') := fun W hb => CloneF _ ns1 _ W (j2.fr (FR.out W hb)).1 g2
      have Q3 : Hid (∀ W, Below wr.heap.size wr W → Calls Try.prog 9 #[.slice p13 on1.length q13] W fun r w' => (∃ y c', r = .returned (.slice y on1.length c') ∧ NmF (Fresh W.heap.size w'.heap.size) w' y on1) ∧ Below W.heap.size W w') := fun W hb => CloneF _ on1 _ W (j4.fr (FR.out W hb)).1 g4
      have Q4 : Hid (∀ W, Below wr.heap.size wr W → Calls Try.prog 27 #[.slice p14 rs1.length q14] W fun r w' => (∃ y c', r = .returned (.slice y rs1.length c') ∧ RgF (Fresh W.heap.size w'.heap.size) w' y rs1) ∧ Below W.heap.size W w') := fun W hb => CloneG _ rs1 _ W (j5.fr (FR.out W hb)).1 g5
      have Q5 : Hid (∀ W, Below wr.heap.size wr W → Calls Try.prog 11 #[.slice p15 b1.length q15] W fun r w' => (∃ y c', r = .returned (.slice y b1.length c') ∧ StL (Fresh W.heap.size w'.heap.size) d w' y b1) ∧ Below W.heap.size W w') := fun W hb => HX.out W _ b1 _ ((j6.fr (FR.out W hb)).sub fun b q => Nat.lt_of_lt_of_le q (Nat.le_trans HW.out.size hb.size))
      have Q6 : Hid (∀ W, Below wr.heap.size wr W → Calls Try.prog 11 #[.slice p16 e1.length q16] W fun r w' => (∃ y c', r = .returned (.slice y e1.length c') ∧ StL (Fresh W.heap.size w'.heap.size) d w' y e1) ∧ Below W.heap.size W w') := fun W hb => HX.out W _ e1 _ ((j7.fr (FR.out W hb)).sub fun b q => Nat.lt_of_lt_of_le q (Nat.le_trans HW.out.size hb.size))
      have FW : Hid (few ns1.length ∧ few on1.length ∧ few rs1.length) := ⟨g2, g4, g5⟩
      clear j1 j2 j3 j4 j5 j6 j7 g2 g4 g5 FR V1
      generalize hG : wr.heap.size = G at AX AB AS Q0 Q1 Q2 Q3 Q4 Q5 Q6 ⊢
      have HG : Hid (wr.heap.size = G) := hG
      clear hG
      go_cut [] (fun wx => ∃ y0 c0 y2 c2, wx.heap[G]? = some (SO h1 (.slice y0 es1.length c0) (.slice p11 ns1.length q11) (.slice y2 os1.length c2) (.slice p13 on1.length q13) (.slice p14 rs1.length q14) (.slice p15 b1.length q15) (.slice p16 e1.length q16)) ∧ KdF (Fresh (G + 1) wx.heap.size) d wx y0 es1 ∧ KdF (Fresh (G + 1) wx.heap.size) d wx y2 os1 ∧ Below G wr wx ∧ G + 1 ≤ wx.heap.size)
      case first =>
        refine wp_region_J 7 (fun W => W.heap[G]? = some (SO h1 (.slice p10 es1.length q10) (.slice p11 ns1.length q11) (.slice p12 os1.length q12) (.slice p13 on1.length q13) (.slice p14 rs1.length q14) (.slice p15 b1.length q15) (.slice p16 e1.length q16))) (by kernel_rfl) AX.out (fun hHeld => ?_)
        refine wpAnyJ_take (i := 0) (v := .pointer (some ⟨G, 4, none⟩)) rfl (by kernel_rfl) (by kernel_rfl) (by kernel_rfl) (by kernel_rfl) (fun _ _ _ h => h) (Or.inl ⟨by rfl, fun W hW => ?_⟩) hHeld ?_
        · go_simp
        simp only [Act.put, List.setIfInBounds_toArray]
        refine wpAnyJ_take (i := 1) (v := .slice p10 es1.length q10) rfl (by kernel_rfl) (by kernel_rfl) (by kernel_rfl) (by kernel_rfl) (fun _ _ _ h => h) (Or.inl ⟨by rfl, fun W hW => ?_⟩) hHeld ?_
        · have cc : W.cell? ⟨G, 4, none⟩ = some (.slice p10 es1.length q10) := by simp [World.cell?, show W.heap[G]? = _ from hW]
          go_simp
        simp only [Act.put]
        refine wpAnyJ_take (i := 3) (v := .pointer (some ⟨G, 6, none⟩)) rfl (by kernel_rfl) (by kernel_rfl) (by kernel_rfl) (by kernel_rfl) (fun _ _ _ h => h) (Or.inl ⟨by rfl, fun W hW => ?_⟩) hHeld ?_
        · go_simp
        simp only [Act.put]
        refine wpAnyJ_take (i := 4) (v := .slice p12 os1.length q12) rfl (by kernel_rfl) (by kernel_rfl) (by kernel_rfl) (by kernel_rfl) (fun _ _ _ h => h) (Or.inl ⟨by rfl, fun W hW => ?_⟩) hHeld ?_
        · have cc : W.cell? ⟨G, 6, none⟩ = some (.slice p12 os1.length q12) := by simp [World.cell?, show W.heap[G]? = _ from hW]
          go_simp
        simp only [Act.put]
        refine wpAnyJ_one (i := 2) (by kernel_rfl) rfl (fun K hK => ?_)
        go_simp
        refine (Q0.out _ AB.out.drew).mono ?_
        rintro r w0 ⟨⟨y0, c0, rfl, hk0⟩, hb0⟩
        have X0 : w0.heap[G]? = some (SO h1 (.slice p10 es1.length q10) (.slice p11 ns1.length q11) (.slice p12 os1.length q12) (.slice p13 on1.length q13) (.slice p14 rs1.length q14) (.slice p15 b1.length q15) (.slice p16 e1.length q16)) := (hb0.block _ (by show G < AW.heap.size; omega)).trans AX.out
        have B0 : Below G wr w0 := (AB.out.drew).trans (hb0.mono (by show G ≤ AW.heap.size; omega))
        have s0 := hb0.size
        change AW.heap.size ≤ _ at s0
        refine hK.out _ _ (fun _ => X0) ?_
        clear hK K
        refine wpAnyJ_take (i := 6) (v := .pointer (some ⟨G, 4, none⟩)) rfl (by kernel_rfl) (by kernel_rfl) (by kernel_rfl) (by kernel_rfl) (fun _ _ _ h => h) (Or.inl ⟨by rfl, fun W hW => ?_⟩) X0 ?_
        · go_simp
        simp only [Act.put]
        refine wpAnyJ_one (i := 5) (by kernel_rfl) rfl (fun K hK => ?_)
        go_simp
        refine (Q2.out _ B0).mono ?_
        rintro r w2 ⟨⟨y2, c2, rfl, hk2⟩, hb2⟩
        have X2 : w2.heap[G]? = some (SO h1 (.slice p10 es1.length q10) (.slice p11 ns1.length q11) (.slice p12 os1.length q12) (.slice p13 on1.length q13) (.slice p14 rs1.length q14) (.slice p15 b1.length q15) (.slice p16 e1.length q16)) := (hb2.block _ (by omega)).trans X0
        have B2 : Below G wr w2 := (B0).trans (hb2.mono (by omega))
        have s2 := hb2.size
        refine hK.out _ _ (fun _ => X2) ?_
        clear hK K
        have k0 : (w2).cell? ⟨G, 4, none⟩ = some (.slice p10 es1.length q10) := by simp [World.cell?, X2]
        have f0 : (w2).frozen? ⟨G, 4, none⟩ = false := by simp [World.frozen?, X2]
        refine wpAnyJ_one (i := 7) (by kernel_rfl) rfl (fun K hK => ?_)
        go_simp
        refine hK.out _ _ (fun h => nomatch (show true = false from h)) ?_
        clear hK K
        have Z0 : ((w2).setCell ⟨G, 4, none⟩ (.slice y0 es1.length c0)).heap[G]? = some (SO h1 (.slice y0 es1.length c0) (.slice p11 ns1.length q11) (.slice p12 os1.length q12) (.slice p13 on1.length q13) (.slice p14 rs1.length q14) (.slice p15 b1.length q15) (.slice p16 e1.length q16)) := by simp [World.setCell, Array.getElem?_modify, X2]
        obtain ⟨v0, ev0⟩ : ∃ v, v = (w2).setCell ⟨G, 4, none⟩ (.slice y0 es1.length c0) := ⟨_, rfl⟩
        rw [← ev0] at Z0 ⊢
        have D0 : Below G wr v0 := by rw [ev0]; exact (B2).setCell (Nat.le_refl _) _
        have T0 : v0.heap.size = (w2).heap.size := by rw [ev0]; simp
        have U0 : ∀ k, G + 1 ≤ k → v0.heap[k]? = (w2).heap[k]? := fun k hk => by rw [ev0]; exact Below.heap_setCell _ _ _ _ (by show k ≠ G; omega)
        clear ev0
        have k2 : (v0).cell? ⟨G, 6, none⟩ = some (.slice p12 os1.length q12) := by simp [World.cell?, Z0]
        have f2 : (v0).frozen? ⟨G, 6, none⟩ = false := by simp [World.frozen?, Z0]
        refine wpAnyJ_one (i := 8) (by kernel_rfl) rfl (fun K hK => ?_)
        go_simp
        refine hK.out _ _ (fun h => nomatch (show true = false from h)) ?_
        clear hK K
        refine wpAnyJ_one (i := 9) (by kernel_rfl) rfl (fun K hK => ?_)
        go_simp
        refine hK.out _ _ (fun h => nomatch (show true = false from h)) ?_
        clear hK K
        have Z2 : ((v0).setCell ⟨G, 6, none⟩ (.slice y2 os1.length c2)).heap[G]? = some (SO h1 (.slice y0 es1.length c0) (.slice p11 ns1.length q11) (.slice y2 os1.length c2) (.slice p13 on1.length q13) (.slice p14 rs1.length q14) (.slice p15 b1.length q15) (.slice p16 e1.length q16)) := by simp [World.setCell, Array.getElem?_modify, Z0]
        obtain ⟨v2, ev2⟩ : ∃ v, v = (v0).setCell ⟨G, 6, none⟩ (.slice y2 os1.length c2) := ⟨_, rfl⟩
        rw [← ev2] at Z2 ⊢
        have D2 : Below G wr v2 := by rw [ev2]; exact (D0).setCell (Nat.le_refl _) _
        have T2 : v2.heap.size = (v0).heap.size := by rw [ev2]; simp
        have U2 : ∀ k, G + 1 ≤ k → v2.heap[k]? = (v0).heap[k]? := fun k hk => by rw [ev2]; exact Below.heap_setCell _ _ _ _ (by show k ≠ G; omega)
        clear ev2
        refine wpAnyJ_done (by kernel_rfl) ?_ _
        refine Met.intro ?_
        go_step
        go_meet
        case rel =>
          have EE : ∀ k, G + 1 ≤ k → k < AW.heap.size → v2.heap[k]? = AW.heap[k]? := fun k p q => (((U2 k p).trans (U0 k p)).trans (hb2.block k (by omega))).trans (hb0.block k q)
          have EE0 : ∀ k, G + 1 ≤ k → k < w0.heap.size → v2.heap[k]? = w0.heap[k]? := fun k p q => ((U2 k p).trans (U0 k p)).trans (hb2.block k (by omega))
          have EE2 : ∀ k, G + 1 ≤ k → k < w2.heap.size → v2.heap[k]? = w2.heap[k]? := fun k p q => (U2 k p).trans (U0 k p)
          exact ⟨y0, c0, y2, c2, Z2, (hk0.fr (fr_up EE0 (by show G + 1 ≤ AW.heap.size; omega))).up (by show G + 1 ≤ AW.heap.size; omega) (by omega), (hk2.fr (fr_up EE2 (by omega))).up (by omega) (by omega), D2, by omega⟩
      case rest =>
        obtain ⟨y0, c0, y2, c2, bx, k0, k2, hb, hs⟩ := hcut
        clear AX AB AS Q0 Q2
        have BX : Hid (wc.heap[G]? = some (SO h1 (.slice y0 es1.length c0) (.slice p11 ns1.length q11) (.slice y2 os1.length c2) (.slice p13 on1.length q13) (.slice p14 rs1.length q14) (.slice p15 b1.length q15) (.slice p16 e1.length q16))) := bx
        have BB : Hid (Below G wr wc) := hb
        have K0 : Hid (KdF (Fresh (G + 1) wc.heap.size) d wc y0 es1) := k0
        have K2 : Hid (KdF (Fresh (G + 1) wc.heap.size) d wc y2 os1) := k2
        have hs' : G + 1 ≤ wc.heap.size := hs
        clear bx hb hs k0 k2
        go_upto_region 6 with fail
        go_cut [] (fun wx => ∃ y0 c0 y2 c2 y1 c1 y3 c3 y4 c4, wx.heap[G]? = some (SO h1 (.slice y0 es1.length c0) (.slice y1 ns1.length c1) (.slice y2 os1.length c2) (.slice y3 on1.length c3) (.slice y4 rs1.length c4) (.slice p15 b1.length q15) (.slice p16 e1.length q16)) ∧ KdF (Fresh (G + 1) wx.heap.size) d wx y0 es1 ∧ KdF (Fresh (G + 1) wx.heap.size) d wx y2 os1 ∧ NmF (Fresh (G + 1) wx.heap.size) wx y1 ns1 ∧ NmF (Fresh (G + 1) wx.heap.size) wx y3 on1 ∧ RgF (Fresh (G + 1) wx.heap.size) wx y4 rs1 ∧ Below G wr wx ∧ G + 1 ≤ wx.heap.size)
        case first =>
          refine wp_region_J 10 (fun W => W.heap[G]? = some (SO h1 (.slice y0 es1.length c0) (.slice p11 ns1.length q11) (.slice y2 os1.length c2) (.slice p13 on1.length q13) (.slice p14 rs1.length q14) (.slice p15 b1.length q15) (.slice p16 e1.length q16))) (by kernel_rfl) BX.out (fun hHeld => ?_)
          refine wpAnyJ_take (i := 0) (v := .pointer (some ⟨G, 5, none⟩)) rfl (by kernel_rfl) (by kernel_rfl) (by kernel_rfl) (by kernel_rfl) (fun _ _ _ h => h) (Or.inl ⟨by rfl, fun W hW => ?_⟩) hHeld ?_
          · go_simp
          simp only [Act.put, List.setIfInBounds_toArray]
          refine wpAnyJ_take (i := 1) (v := .slice p11 ns1.length q11) rfl (by kernel_rfl) (by kernel_rfl) (by kernel_rfl) (by kernel_rfl) (fun _ _ _ h => h) (Or.inl ⟨by rfl, fun W hW => ?_⟩) hHeld ?_
          · have cc : W.cell? ⟨G, 5, none⟩ = some (.slice p11 ns1.length q11) := by simp [World.cell?, show W.heap[G]? = _ from hW]
            go_simp
          simp only [Act.put]
          refine wpAnyJ_take (i := 3) (v := .pointer (some ⟨G, 7, none⟩)) rfl (by kernel_rfl) (by kernel_rfl) (by kernel_rfl) (by kernel_rfl) (fun _ _ _ h => h) (Or.inl ⟨by rfl, fun W hW => ?_⟩) hHeld ?_
          · go_simp
          simp only [Act.put]
          refine wpAnyJ_take (i := 4) (v := .slice p13 on1.length q13) rfl (by kernel_rfl) (by kernel_rfl) (by kernel_rfl) (by kernel_rfl) (fun _ _ _ h => h) (Or.inl ⟨by rfl, fun W hW => ?_⟩) hHeld ?_
          · have cc : W.cell? ⟨G, 7, none⟩ = some (.slice p13 on1.length q13) := by simp [World.cell?, show W.heap[G]? = _ from hW]
            go_simp
          simp only [Act.put]
          refine wpAnyJ_take (i := 6) (v := .pointer (some ⟨G, 8, none⟩)) rfl (by kernel_rfl) (by kernel_rfl) (by kernel_rfl) (by kernel_rfl) (fun _ _ _ h => h) (Or.inl ⟨by rfl, fun W hW => ?_⟩) hHeld ?_
          · go_simp
          simp only [Act.put]
          refine wpAnyJ_take (i := 7) (v := .slice p14 rs1.length q14) rfl (by kernel_rfl) (by kernel_rfl) (by kernel_rfl) (by kernel_rfl) (fun _ _ _ h => h) (Or.inl ⟨by rfl, fun W hW => ?_⟩) hHeld ?_
          · have cc : W.cell? ⟨G, 8, none⟩ = some (.slice p14 rs1.length q14) := by simp [World.cell?, show W.heap[G]? = _ from hW]
            go_simp
          simp only [Act.put]
          refine wpAnyJ_one (i := 2) (by kernel_rfl) rfl (fun K hK => ?_)
          go_simp
          refine (Q1.out _ BB.out.drew).mono ?_
          rintro r w1 ⟨⟨y1, c1, rfl, hk1⟩, hb1⟩
          have X1 : w1.heap[G]? = some (SO h1 (.slice y0 es1.length c0) (.slice p11 ns1.length q11) (.slice y2 os1.length c2) (.slice p13 on1.length q13) (.slice p14 rs1.length q14) (.slice p15 b1.length q15) (.slice p16 e1.length q16)) := (hb1.block _ (by show G < wc.heap.size; omega)).trans BX.out
          have B1 : Below G wr w1 := (BB.out.drew).trans (hb1.mono (by show G ≤ wc.heap.size; omega))
          have s1 := hb1.size
          change wc.heap.size ≤ _ at s1
          refine hK.out _ _ (fun _ => X1) ?_
          clear hK K
          refine wpAnyJ_take (i := 9) (v := .pointer (some ⟨G, 5, none⟩)) rfl (by kernel_rfl) (by kernel_rfl) (by kernel_rfl) (by kernel_rfl) (fun _ _ _ h => h) (Or.inl ⟨by rfl, fun W hW => ?_⟩) X1 ?_
          · go_simp
          simp only [Act.put]
          refine wpAnyJ_one (i := 5) (by kernel_rfl) rfl (fun K hK => ?_)
          go_simp
          refine (Q3.out _ B1).mono ?_
          rintro r w3 ⟨⟨y3, c3, rfl, hk3⟩, hb3⟩
          have X3 : w3.heap[G]? = some (SO h1 (.slice y0 es1.length c0) (.slice p11 ns1.length q11) (.slice y2 os1.length c2) (.slice p13 on1.length q13) (.slice p14 rs1.length q14) (.slice p15 b1.length q15) (.slice p16 e1.length q16)) := (hb3.block _ (by omega)).trans X1
          have B3 : Below G wr w3 := (B1).trans (hb3.mono (by omega))
          have s3 := hb3.size
          refine hK.out _ _ (fun _ => X3) ?_
          clear hK K
          refine wpAnyJ_one (i := 8) (by kernel_rfl) rfl (fun K hK => ?_)
          go_simp
          refine (Q4.out _ B3).mono ?_
          rintro r w4 ⟨⟨y4, c4, rfl, hk4⟩, hb4⟩
          have X4 : w4.heap[G]? = some (SO h1 (.slice y0 es1.length c0) (.slice p11 ns1.length q11) (.slice y2 os1.length c2) (.slice p13 on1.length q13) (.slice p14 rs1.length q14) (.slice p15 b1.length q15) (.slice p16 e1.length q16)) := (hb4.block _ (by omega)).trans X3
          have B4 : Below G wr w4 := (B3).trans (hb4.mono (by omega))
          have s4 := hb4.size
          refine hK.out _ _ (fun _ => X4) ?_
          clear hK K
          have k1 : (w4).cell? ⟨G, 5, none⟩ = some (.slice p11 ns1.length q11) := by simp [World.cell?, X4]
          have f1 : (w4).frozen? ⟨G, 5, none⟩ = false := by simp [World.frozen?, X4]
          refine wpAnyJ_one (i := 10) (by kernel_rfl) rfl (fun K hK => ?_)
          go_simp
          refine hK.out _ _ (fun h => nomatch (show true = false from h)) ?_
          clear hK K
          have Z1 : ((w4).setCell ⟨G, 5, none⟩ (.slice y1 ns1.length c1)).heap[G]? = some (SO h1 (.slice y0 es1.length c0) (.slice y1 ns1.length c1) (.slice y2 os1.length c2) (.slice p13 on1.length q13) (.slice p14 rs1.length q14) (.slice p15 b1.length q15) (.slice p16 e1.length q16)) := by simp [World.setCell, Array.getElem?_modify, X4]
          obtain ⟨v1, ev1⟩ : ∃ v, v = (w4).setCell ⟨G, 5, none⟩ (.slice y1 ns1.length c1) := ⟨_, rfl⟩
          rw [← ev1] at Z1 ⊢
          have D1 : Below G wr v1 := by rw [ev1]; exact (B4).setCell (Nat.le_refl _) _
          have T1 : v1.heap.size = (w4).heap.size := by rw [ev1]; simp
          have U1 : ∀ k, G + 1 ≤ k → v1.heap[k]? = (w4).heap[k]? := fun k hk => by rw [ev1]; exact Below.heap_setCell _ _ _ _ (by show k ≠ G; omega)
          clear ev1
          have k3 : (v1).cell? ⟨G, 7, none⟩ = some (.slice p13 on1.length q13) := by simp [World.cell?, Z1]
          have f3 : (v1).frozen? ⟨G, 7, none⟩ = false := by simp [World.frozen?, Z1]
          refine wpAnyJ_one (i := 11) (by kernel_rfl) rfl (fun K hK => ?_)
          go_simp
          refine hK.out _ _ (fun h => nomatch (show true = false from h)) ?_
          clear hK K
          refine wpAnyJ_one (i := 12) (by kernel_rfl) rfl (fun K hK => ?_)
          go_simp
          refine hK.out _ _ (fun h => nomatch (show true = false from h)) ?_
          clear hK K
          have Z3 : ((v1).setCell ⟨G, 7, none⟩ (.slice y3 on1.length c3)).heap[G]? = some (SO h1 (.slice y0 es1.length c0) (.slice y1 ns1.length c1) (.slice y2 os1.length c2) (.slice y3 on1.length c3) (.slice p14 rs1.length q14) (.slice p15 b1.length q15) (.slice p16 e1.length q16)) := by simp [World.setCell, Array.getElem?_modify, Z1]
          obtain ⟨v3, ev3⟩ : ∃ v, v = (v1).setCell ⟨G, 7, none⟩ (.slice y3 on1.length c3) := ⟨_, rfl⟩
          rw [← ev3] at Z3 ⊢
          have D3 : Below G wr v3 := by rw [ev3]; exact (D1).setCell (Nat.le_refl _) _
          have T3 : v3.heap.size = (v1).heap.size := by rw [ev3]; simp
          have U3 : ∀ k, G + 1 ≤ k → v3.heap[k]? = (v1).heap[k]? := fun k hk => by rw [ev3]; exact Below.heap_setCell _ _ _ _ (by show k ≠ G; omega)
          clear ev3
          have k4 : (v3).cell? ⟨G, 8, none⟩ = some (.slice p14 rs1.length q14) := by simp [World.cell?, Z3]
          have f4 : (v3).frozen? ⟨G, 8, none⟩ = false := by simp [World.frozen?, Z3]
          refine wpAnyJ_one (i := 13) (by kernel_rfl) rfl (fun K hK => ?_)
          go_simp
          refine hK.out _ _ (fun h => nomatch (show true = false from h)) ?_
          clear hK K
          refine wpAnyJ_one (i := 14) (by kernel_rfl) rfl (fun K hK => ?_)
          go_simp
          refine hK.out _ _ (fun h => nomatch (show true = false from h)) ?_
          clear hK K
          have Z4 : ((v3).setCell ⟨G, 8, none⟩ (.slice y4 rs1.length c4)).heap[G]? = some (SO h1 (.slice y0 es1.length c0) (.slice y1 ns1.length c1) (.slice y2 os1.length c2) (.slice y3 on1.length c3) (.slice y4 rs1.length c4) (.slice p15 b1.length q15) (.slice p16 e1.length q16)) := by simp [World.setCell, Array.getElem?_modify, Z3]
          obtain ⟨v4, ev4⟩ : ∃ v, v = (v3).setCell ⟨G, 8, none⟩ (.slice y4 rs1.length c4) := ⟨_, rfl⟩
          rw [← ev4] at Z4 ⊢
          have D4 : Below G wr v4 := by rw [ev4]; exact (D3).setCell (Nat.le_refl _) _
          have T4 : v4.heap.size = (v3).heap.size := by rw [ev4]; simp
          have U4 : ∀ k, G + 1 ≤ k → v4.heap[k]? = (v3).heap[k]? := fun k hk => by rw [ev4]; exact Below.heap_setCell _ _ _ _ (by show k ≠ G; omega)
          clear ev4
          refine wpAnyJ_done (by kernel_rfl) ?_ _
          refine Met.intro ?_
          go_step
          go_meet
          case rel =>
            have EE : ∀ k, G + 1 ≤ k → k < wc.heap.size → v4.heap[k]? = wc.heap[k]? := fun k p q => (((((U4 k p).trans (U3 k p)).trans (U1 k p)).trans (hb4.block k (by omega))).trans (hb3.block k (by omega))).trans (hb1.block k q)
            have EE1 : ∀ k, G + 1 ≤ k → k < w1.heap.size → v4.heap[k]? = w1.heap[k]? := fun k p q => ((((U4 k p).trans (U3 k p)).trans (U1 k p)).trans (hb4.block k (by omega))).trans (hb3.block k (by omega))
            have EE3 : ∀ k, G + 1 ≤ k → k < w3.heap.size → v4.heap[k]? = w3.heap[k]? := fun k p q => (((U4 k p).trans (U3 k p)).trans (U1 k p)).trans (hb4.block k (by omega))
            have EE4 : ∀ k, G + 1 ≤ k → k < w4.heap.size → v4.heap[k]? = w4.heap[k]? := fun k p q => ((U4 k p).trans (U3 k p)).trans (U1 k p)
            exact ⟨y0, c0, y2, c2, y1, c1, y3, c3, y4, c4, Z4, (K0.out.fr (fr_up EE (Nat.le_refl _))).up (Nat.le_refl _) (by omega), (K2.out.fr (fr_up EE (Nat.le_refl _))).up (Nat.le_refl _) (by omega), (hk1.fr (fr_up EE1 (by show G + 1 ≤ wc.heap.size; omega))).up (by show G + 1 ≤ wc.heap.size; omega) (by omega), (hk3.fr (fr_up EE3 (by omega))).up (by omega) (by omega), (hk4.fr (fr_up EE4 (by omega))).up (by omega) (by omega), D4, by omega⟩
        case rest =>
          obtain ⟨y0, c0, y2, c2, y1, c1, y3, c3, y4, c4, bx, k0, k2, k1, k3, k4, hb, hs⟩ := hcut
          clear BX BB Q1 Q3 Q4 K0 K2
          have CX : Hid (wc.heap[G]? = some (SO h1 (.slice y0 es1.length c0) (.slice y1 ns1.length c1) (.slice y2 os1.length c2) (.slice y3 on1.length c3) (.slice y4 rs1.length c4) (.slice p15 b1.length q15) (.slice p16 e1.length q16))) := bx
          have CB : Hid (Below G wr wc) := hb
          have K0 : Hid (KdF (Fresh (G + 1) wc.heap.size) d wc y0 es1) := k0
          have K2 : Hid (KdF (Fresh (G + 1) wc.heap.size) d wc y2 os1) := k2
          have K1 : Hid (NmF (Fresh (G + 1) wc.heap.size) wc y1 ns1) := k1
          have K3 : Hid (NmF (Fresh (G + 1) wc.heap.size) wc y3 on1) := k3
          have K4 : Hid (RgF (Fresh (G + 1) wc.heap.size) wc y4 rs1) := k4
          have hs' : G + 1 ≤ wc.heap.size := hs
          clear bx hb hs k0 k2 k1 k3 k4
          go_upto_region 7 with fail
          go_cut [] (fun wx => ∃ y0 c0 y2 c2 y1 c1 y3 c3 y4 c4 y5 c5 y6 c6, wx.heap[G]? = some (SO h1 (.slice y0 es1.length c0) (.slice y1 ns1.length c1) (.slice y2 os1.length c2) (.slice y3 on1.length c3) (.slice y4 rs1.length c4) (.slice y5 b1.length c5) (.slice y6 e1.length c6)) ∧ KdF (Fresh (G + 1) wx.heap.size) d wx y0 es1 ∧ KdF (Fresh (G + 1) wx.heap.size) d wx y2 os1 ∧ NmF (Fresh (G + 1) wx.heap.size) wx y1 ns1 ∧ NmF (Fresh (G + 1) wx.heap.size) wx y3 on1 ∧ RgF (Fresh (G + 1) wx.heap.size) wx y4 rs1 ∧ StL (Fresh (G + 1) wx.heap.size) d wx y5 b1 ∧ StL (Fresh (G + 1) wx.heap.size) d wx y6 e1 ∧ Below G wr wx ∧ G + 1 ≤ wx.heap.size)
          case first =>
            refine wp_region_J 7 (fun W => W.heap[G]? = some (SO h1 (.slice y0 es1.length c0) (.slice y1 ns1.length c1) (.slice y2 os1.length c2) (.slice y3 on1.length c3) (.slice y4 rs1.length c4) (.slice p15 b1.length q15) (.slice p16 e1.length q16))) (by kernel_rfl) CX.out (fun hHeld => ?_)
            refine wpAnyJ_take (i := 0) (v := .pointer (some ⟨G, 9, none⟩)) rfl (by kernel_rfl) (by kernel_rfl) (by kernel_rfl) (by kernel_rfl) (fun _ _ _ h => h) (Or.inl ⟨by rfl, fun W hW => ?_⟩) hHeld ?_
            · go_simp
            simp only [Act.put, List.setIfInBounds_toArray]
            refine wpAnyJ_take (i := 1) (v := .slice p15 b1.length q15) rfl (by kernel_rfl) (by kernel_rfl) (by kernel_rfl) (by kernel_rfl) (fun _ _ _ h => h) (Or.inl ⟨by rfl, fun W hW => ?_⟩) hHeld ?_
            · have cc : W.cell? ⟨G, 9, none⟩ = some (.slice p15 b1.length q15) := by simp [World.cell?, show W.heap[G]? = _ from hW]
              go_simp
            simp only [Act.put]
            refine wpAnyJ_take (i := 3) (v := .pointer (some ⟨G, 10, none⟩)) rfl (by kernel_rfl) (by kernel_rfl) (by kernel_rfl) (by kernel_rfl) (fun _ _ _ h => h) (Or.inl ⟨by rfl, fun W hW => ?_⟩) hHeld ?_
            · go_simp
            simp only [Act.put]
            refine wpAnyJ_take (i := 4) (v := .slice p16 e1.length q16) rfl (by kernel_rfl) (by kernel_rfl) (by kernel_rfl) (by kernel_rfl) (fun _ _ _ h => h) (Or.inl ⟨by rfl, fun W hW => ?_⟩) hHeld ?_
            · have cc : W.cell? ⟨G, 10, none⟩ = some (.slice p16 e1.length q16) := by simp [World.cell?, show W.heap[G]? = _ from hW]
              go_simp
            simp only [Act.put]
            refine wpAnyJ_one (i := 2) (by kernel_rfl) rfl (fun K hK => ?_)
            go_simp
            refine (Q5.out _ CB.out.drew).mono ?_
            rintro r w5 ⟨⟨y5, c5, rfl, hk5⟩, hb5⟩
            have X5 : w5.heap[G]? = some (SO h1 (.slice y0 es1.length c0) (.slice y1 ns1.length c1) (.slice y2 os1.length c2) (.slice y3 on1.length c3) (.slice y4 rs1.length c4) (.slice p15 b1.length q15) (.slice p16 e1.length q16)) := (hb5.block _ (by show G < wc.heap.size; omega)).trans CX.out
            have B5 : Below G wr w5 := (CB.out.drew).trans (hb5.mono (by show G ≤ wc.heap.size; omega))
            have s5 := hb5.size
            change wc.heap.size ≤ _ at s5
            refine hK.out _ _ (fun _ => X5) ?_
            clear hK K
            refine wpAnyJ_take (i := 6) (v := .pointer (some ⟨G, 9, none⟩)) rfl (by kernel_rfl) (by kernel_rfl) (by kernel_rfl) (by kernel_rfl) (fun _ _ _ h => h) (Or.inl ⟨by rfl, fun W hW => ?_⟩) X5 ?_
            · go_simp
            simp only [Act.put]
            refine wpAnyJ_one (i := 5) (by kernel_rfl) rfl (fun K hK => ?_)
            go_simp
            refine (Q6.out _ B5).mono ?_
            rintro r w6 ⟨⟨y6, c6, rfl, hk6⟩, hb6⟩
            have X6 : w6.heap[G]? = some (SO h1 (.slice y0 es1.length c0) (.slice y1 ns1.length c1) (.slice y2 os1.length c2) (.slice y3 on1.length c3) (.slice y4 rs1.length c4) (.slice p15 b1.length q15) (.slice p16 e1.length q16)) := (hb6.block _ (by omega)).trans X5
            have B6 : Below G wr w6 := (B5).trans (hb6.mono (by omega))
            have s6 := hb6.size
            refine hK.out _ _ (fun _ => X6) ?_
            clear hK K
            have k5 : (w6).cell? ⟨G, 9, none⟩ = some (.slice p15 b1.length q15) := by simp [World.cell?, X6]
            have f5 : (w6).frozen? ⟨G, 9, none⟩ = false := by simp [World.frozen?, X6]
            refine wpAnyJ_one (i := 7) (by kernel_rfl) rfl (fun K hK => ?_)
            go_simp
            refine hK.out _ _ (fun h => nomatch (show true = false from h)) ?_
            clear hK K
            have Z5 : ((w6).setCell ⟨G, 9, none⟩ (.slice y5 b1.length c5)).heap[G]? = some (SO h1 (.slice y0 es1.length c0) (.slice y1 ns1.length c1) (.slice y2 os1.length c2) (.slice y3 on1.length c3) (.slice y4 rs1.length c4) (.slice y5 b1.length c5) (.slice p16 e1.length q16)) := by simp [World.setCell, Array.getElem?_modify, X6]
            obtain ⟨v5, ev5⟩ : ∃ v, v = (w6).setCell ⟨G, 9, none⟩ (.slice y5 b1.length c5) := ⟨_, rfl⟩
            rw [← ev5] at Z5 ⊢
            have D5 : Below G wr v5 := by rw [ev5]; exact (B6).setCell (Nat.le_refl _) _
            have T5 : v5.heap.size = (w6).heap.size := by rw [ev5]; simp
            have U5 : ∀ k, G + 1 ≤ k → v5.heap[k]? = (w6).heap[k]? := fun k hk => by rw [ev5]; exact Below.heap_setCell _ _ _ _ (by show k ≠ G; omega)
            clear ev5
            have k6 : (v5).cell? ⟨G, 10, none⟩ = some (.slice p16 e1.length q16) := by simp [World.cell?, Z5]
            have f6 : (v5).frozen? ⟨G, 10, none⟩ = false := by simp [World.frozen?, Z5]
            refine wpAnyJ_one (i := 8) (by kernel_rfl) rfl (fun K hK => ?_)
            go_simp
            refine hK.out _ _ (fun h => nomatch (show true = false from h)) ?_
            clear hK K
            refine wpAnyJ_one (i := 9) (by kernel_rfl) rfl (fun K hK => ?_)
            go_simp
            refine hK.out _ _ (fun h => nomatch (show true = false from h)) ?_
            clear hK K
            have Z6 : ((v5).setCell ⟨G, 10, none⟩ (.slice y6 e1.length c6)).heap[G]? = some (SO h1 (.slice y0 es1.length c0) (.slice y1 ns1.length c1) (.slice y2 os1.length c2) (.slice y3 on1.length c3) (.slice y4 rs1.length c4) (.slice y5 b1.length c5) (.slice y6 e1.length c6)) := by simp [World.setCell, Array.getElem?_modify, Z5]
            obtain ⟨v6, ev6⟩ : ∃ v, v = (v5).setCell ⟨G, 10, none⟩ (.slice y6 e1.length c6) := ⟨_, rfl⟩
            rw [← ev6] at Z6 ⊢
            have D6 : Below G wr v6 := by rw [ev6]; exact (D5).setCell (Nat.le_refl _) _
            have T6 : v6.heap.size = (v5).heap.size := by rw [ev6]; simp
            have U6 : ∀ k, G + 1 ≤ k → v6.heap[k]? = (v5).heap[k]? := fun k hk => by rw [ev6]; exact Below.heap_setCell _ _ _ _ (by show k ≠ G; omega)
            clear ev6
            refine wpAnyJ_done (by kernel_rfl) ?_ _
            refine Met.intro ?_
            go_step
            go_meet
            case rel =>
              have EE : ∀ k, G + 1 ≤ k → k < wc.heap.size → v6.heap[k]? = wc.heap[k]? := fun k p q => (((U6 k p).trans (U5 k p)).trans (hb6.block k (by omega))).trans (hb5.block k q)
              have EE5 : ∀ k, G + 1 ≤ k → k < w5.heap.size → v6.heap[k]? = w5.heap[k]? := fun k p q => ((U6 k p).trans (U5 k p)).trans (hb6.block k (by omega))
              have EE6 : ∀ k, G + 1 ≤ k → k < w6.heap.size → v6.heap[k]? = w6.heap[k]? := fun k p q => (U6 k p).trans (U5 k p)
              exact ⟨y0, c0, y2, c2, y1, c1, y3, c3, y4, c4, y5, c5, y6, c6, Z6, (K0.out.fr (fr_up EE (Nat.le_refl _))).up (Nat.le_refl _) (by omega), (K2.out.fr (fr_up EE (Nat.le_refl _))).up (Nat.le_refl _) (by omega), (K1.out.fr (fr_up EE (Nat.le_refl _))).up (Nat.le_refl _) (by omega), (K3.out.fr (fr_up EE (Nat.le_refl _))).up (Nat.le_refl _) (by omega), (K4.out.fr (fr_up EE (Nat.le_refl _))).up (Nat.le_refl _) (by omega), (hk5.fr (fr_up EE5 (by show G + 1 ≤ wc.heap.size; omega))).up (by show G + 1 ≤ wc.heap.size; omega) (by omega), (hk6.fr (fr_up EE6 (by omega))).up (by omega) (by omega), D6, by omega⟩
          case rest =>
            obtain ⟨y0, c0, y2, c2, y1, c1, y3, c3, y4, c4, y5, c5, y6, c6, bx, k0, k2, k1, k3, k4, k5, k6, hb, hs⟩ := hcut
            clear CX CB Q5 Q6 K0 K2 K1 K3 K4
            have DX : Hid (wc.heap[G]? = some (SO h1 (.slice y0 es1.length c0) (.slice y1 ns1.length c1) (.slice y2 os1.length c2) (.slice y3 on1.length c3) (.slice y4 rs1.length c4) (.slice y5 b1.length c5) (.slice y6 e1.length c6))) := bx
            have DB : Hid (Below G wr wc) := hb
            have K0 : Hid (KdF (Fresh (G + 1) wc.heap.size) d wc y0 es1) := k0
            have K2 : Hid (KdF (Fresh (G + 1) wc.heap.size) d wc y2 os1) := k2
            have K1 : Hid (NmF (Fresh (G + 1) wc.heap.size) wc y1 ns1) := k1
            have K3 : Hid (NmF (Fresh (G + 1) wc.heap.size) wc y3 on1) := k3
            have K4 : Hid (RgF (Fresh (G + 1) wc.heap.size) wc y4 rs1) := k4
            have K5 : Hid (StL (Fresh (G + 1) wc.heap.size) d wc y5 b1) := k5
            have K6 : Hid (StL (Fresh (G + 1) wc.heap.size) d wc y6 e1) := k6
            have hs' : G + 1 ≤ wc.heap.size := hs
            clear bx hb hs k0 k2 k1 k3 k4 k5 k6
            have b0 : wc.cell? ⟨G, 0, none⟩ = some (.int .i64 h1.op) := by simp [World.cell?, DX.out]
            have b1' : wc.cell? ⟨G, 1, none⟩ = some (.int .i64 h1.pl) := by simp [World.cell?, DX.out]
            have b2 : wc.cell? ⟨G, 2, none⟩ = some (.string h1.nm) := by simp [World.cell?, DX.out]
            have b3 : wc.cell? ⟨G, 3, none⟩ = some (.int .i64 h1.nu) := by simp [World.cell?, DX.out]
            have b4 : wc.cell? ⟨G, 4, none⟩ = some (.slice y0 es1.length c0) := by simp [World.cell?, DX.out]
            have b5 : wc.cell? ⟨G, 5, none⟩ = some (.slice y1 ns1.length c1) := by simp [World.cell?, DX.out]
            have b6 : wc.cell? ⟨G, 6, none⟩ = some (.slice y2 os1.length c2) := by simp [World.cell?, DX.out]
            have b7 : wc.cell? ⟨G, 7, none⟩ = some (.slice y3 on1.length c3) := by simp [World.cell?, DX.out]
            have b8 : wc.cell? ⟨G, 8, none⟩ = some (.slice y4 rs1.length c4) := by simp [World.cell?, DX.out]
            have b9 : wc.cell? ⟨G, 9, none⟩ = some (.slice y5 b1.length c5) := by simp [World.cell?, DX.out]
            have b10 : wc.cell? ⟨G, 10, none⟩ = some (.slice y6 e1.length c6) := by simp [World.cell?, DX.out]
            have b11 : wc.cell? ⟨G, 11, none⟩ = some (.int .u8 h1.kd) := by simp [World.cell?, DX.out]
            have b12 : wc.cell? ⟨G, 12, none⟩ = some (.int .i64 h1.ar) := by simp [World.cell?, DX.out]
            have b13 : wc.cell? ⟨G, 13, none⟩ = some (.int .i64 h1.rf) := by simp [World.cell?, DX.out]
            have B5 : Hid (Below wr.heap.size wr wc) := by show Below _ _ _; rw [HG.out]; exact DB.out
            have F5 : Hid (SvF (Fresh wr.heap.size wc.heap.size) d wc (SV h1 (.slice y0 es1.length c0) (.slice y1 ns1.length c1) (.slice y2 os1.length c2) (.slice y3 on1.length c3) (.slice y4 rs1.length c4) (.slice y5 b1.length c5) (.slice y6 e1.length c6)) (St.mk h1 es1 ns1 os1 on1 rs1 b1 e1)) := by
              show SvF _ _ _ _ _
              rw [HG.out]
              exact ⟨y0, c0, y1, c1, y2, c2, y3, c3, y4, c4, y5, c5, y6, c6, rfl, K0.out.up (by omega) (Nat.le_refl _), K1.out.up (by omega) (Nat.le_refl _), FW.out.1, K2.out.up (by omega) (Nat.le_refl _), K3.out.up (by omega) (Nat.le_refl _), FW.out.2.1, K4.out.up (by omega) (Nat.le_refl _), FW.out.2.2, K5.out.up (by omega) (Nat.le_refl _), K6.out.up (by omega) (Nat.le_refl _)⟩
            have ew : wrap64 ((k : Int) + 1) = (k : Int) + 1 := by have := HA.out.1; have := LT.out; unfold wrap64; omega
            have OW5 : Hid (∀ X : Obj, (wc.alloc X).ownsRow w.heap.size 65 14 u3 k (scL hs)) := fun X => (own_below OW.out B5.out).alloc X
            have NW : Hid (∀ j u, (sc ⟨h1, .slice y0 es1.length c0, .slice y1 ns1.length c1, .slice y2 os1.length c2, .slice y3 on1.length c3, .slice y4 rs1.length c4, .slice y5 b1.length c5, .slice y6 e1.length c6⟩)[j]? = some u → (wc.alloc (.cells (sc ⟨h1, .slice y0 es1.length c0, .slice y1 ns1.length c1, .slice y2 os1.length c2, .slice y3 on1.length c3, .slice y4 rs1.length c4, .slice y5 b1.length c5, .slice y6 e1.length c6⟩).toArray 65)).cell? ((⟨wc.heap.size, 0, none⟩ : Addr).add j) = some u) := fun j u h => made_cells wc _ _ j u h
            have BZ : Hid (∀ X : Obj, w.heap.size ≤ (wc.alloc X).heap.size) := fun X => by have := HW.out.size; have := B5.out.size; simp; omega
            have LE : Hid (k + 1 ≤ 549755813888) := by have := HA.out.1; have := LT.out; show k + 1 ≤ _; omega
            have I : Hid _ := infoS
            clear K0 K1 K2 K3 K4 K5 K6 DX DB FW
            go_wp2_with (at_builtin; obtain ⟨i, z, hi, hz, hs', hy, hzc⟩ := I.out; refine wpList_append_own_at _ rfl _ _ 47 rfl w.heap.size 65 i z 14 232 Try.underlying47 hi hz hs' hy hzc (by decide) u3 k (scL hs) rfl (OW5.out _) ⟨wc.heap.size, 0, none⟩ 1 1 (sc ⟨h1, .slice y0 es1.length c0, .slice y1 ns1.length c1, .slice y2 os1.length c2, .slice y3 on1.length c3, .slice y4 rs1.length c4, .slice y5 b1.length c5, .slice y6 e1.length c6⟩) rfl rfl NW.out (by intro u hu; simp [sc] at hu; rcases hu with h | h | h | h | h | h | h | h | h | h | h | h | h | h <;> subst h <;> rfl) (by have := LE.out; simp [maxLen]; omega) (by have := LE.out; omega) (BZ.out _) ?_; intro v' w7 q1 q2 q3 q4; have Q1 : Hid _ := q1; have Q2 : Hid _ := q2; have Q4 : Hid _ := q4; clear q1 q2 q3 q4 hi hz hs' hy hzc)
            rw [ew]
            have b6x : ∀ X : Obj, Below wc.heap.size wc (wc.alloc X) := fun X => (Below.refl _ _).alloc (Nat.le_refl _) _
            have s0 := HW.out.size
            refine ⟨⟨k + 1, Nat.succ_le_of_lt LT.out, rfl, ?_, CsI.step EHS.out EV'.out OW.out.lt ⟨h1, .slice y0 es1.length c0, .slice y1 ns1.length c1, .slice y2 os1.length c2, .slice y3 on1.length c3, .slice y4 rs1.length c4, .slice y5 b1.length c5, .slice y6 e1.length c6⟩ _ E1.out s0 B5.out (b6x _) F5.out Q2.out Q1.out Q4.out⟩, msr LT.out⟩
            exact ((HW.out.trans (B5.out.mono s0)).alloc (by have := B5.out.size; omega) _).grown Q2.out (BZ.out _) (fun g e => (OW.out.lt g e).1)
    · have kl : ¬ (k : Int) < l.length := by omega
      have ek : k = l.length := by omega
      subst ek
      obtain ⟨y, c2, rfl, hy⟩ := hcp.done HA.out.1
      have HY : Hid _ := hy
      clear hy hcp hbw hlt
      go_wp2
      go_ret
      exact ⟨⟨y, ⟨c2, rfl⟩, HY.out⟩, HW.out⟩
theorem Stmts_nil (x : Option Addr) (c : Nat) (w : World) : Calls Try.prog 11 #[.slice x 0 c] w fun r w' => r = .returned (.slice none 0 0) ∧ Below w.heap.size w w' := by
  go_enter Try.func11, Try.ntmps11
  go_wp2_with fail
  go_loopw [3, 8] (fun out i wr => out = .slice none 0 0 ∧ i = .int .i64 0 ∧ wr = w) (fun _ _ _ => 0)
  case atStart => exact ⟨rfl, rfl, rfl⟩
  case round =>
    obtain ⟨rfl, rfl, rfl⟩ := hrel
    go_wp2
    go_ret
    exact ⟨rfl, Below.refl _ _⟩
theorem csL_zero : CsL 0 := by
  intro w x l c hk
  obtain rfl := hk.none0
  refine (Stmts_nil x c w).mono ?_
  rintro r w' ⟨rfl, hb⟩
  exact ⟨⟨none, 0, rfl, hk.1, fun _ => rfl, fun b e => by cases e⟩, hb⟩
theorem csL_any : ∀ d, CsL d
  | 0 => csL_zero
  | d + 1 => csL_of d (csL_any d)
end Go.Proofs.Ytcoeinfopfcekaa
