/- image: what the document's cursor reads: an image; no statement of the seat is proved here. -/
import Derived.Test.YtahgnmbkobiclaaGreatCuJJ
import Derived.Test.YtahgnmbkobiclaaGreatJnA6
namespace Go.Proofs.YtahgnmbkobiclaaGreat
set_option linter.unusedVariables false
set_option linter.unusedSimpArgs false
open Go.RowKit
theorem rw_dr {α : Type} {n : Nat} {P : (Nat → Prop) → World → α → List Value → Prop} (K : Kept P) {b : Nat} {w w' : World} {x : Option Addr} {l : List α} (h : RwF n (P (Fresh b w.heap.size) w) (Fresh b w.heap.size) w x l) (hs : w'.heap.size = w.heap.size) (hc : ∀ q, w'.cell? q = w.cell? q) : RwF n (P (Fresh b w'.heap.size) w') (Fresh b w'.heap.size) w' x l := by
  rw [hs]
  exact h.frK K (fun q _ => hc q)
set_option maxRecDepth 20000 in
set_option maxHeartbeats 8000000 in
theorem imageCG (g kb o c : Nat) (bs : List Nat) (s s1 : RS) (v1 : ByteArray) 
    (C1 : ∀ W, Cu g kb o c bs s W → Calls Tryz.prog 28 #[.pointer (some ⟨g, 0, none⟩)] W fun e w' => e = .returned (.string v1) ∧ Cu g kb o c bs s1 w' ∧ W.grownBy w' (some g))
    (s2 s3 s4 : RS) (N2 N3 N4 : Int) (rc : RS → CeR × RS) (rf : RS → FlR × RS) (rj : RS → JbR × RS)
    (OKh : (0 ≤ N2 ∧ N2 ≤ 4194304) ∧ (0 ≤ N3 ∧ N3 ≤ 4194304) ∧ 0 ≤ N4 ∧ N4 ≤ 4194304)
    (C2 : ∀ W, Cu g kb o c bs s1 W → Calls Tryz.prog 29 #[.pointer (some ⟨g, 0, none⟩)] W fun e w' => e = .returned (.int .i64 N2) ∧ Cu g kb o c bs s2 w' ∧ W.grownBy w' (some g))
    (C3 : ∀ W, Cu g kb o c bs (rdKS rc N2.toNat s2) W → Calls Tryz.prog 29 #[.pointer (some ⟨g, 0, none⟩)] W fun e w' => e = .returned (.int .i64 N3) ∧ Cu g kb o c bs s3 w' ∧ W.grownBy w' (some g))
    (C4 : ∀ W, Cu g kb o c bs (rdKS rf N3.toNat s3) W → Calls Tryz.prog 29 #[.pointer (some ⟨g, 0, none⟩)] W fun e w' => e = .returned (.int .i64 N4) ∧ Cu g kb o c bs s4 w' ∧ W.grownBy w' (some g))
    (E2 : ∀ (s : RS) (W : World), Cu g kb o c bs s W → Calls Tryz.prog 30 #[.pointer (some ⟨g, 0, none⟩)] W fun e w' => e = .returned (.agg #[.int .u8 (rc s).1.kd, .bool (rc s).1.sb, .int .i64 (rc s).1.lo, .int .i64 (rc s).1.hi, .int .i64 (rc s).1.mx, .int .u8 (rc s).1.ik, .int .u64 (rc s).1.ib, .string (rc s).1.is, .bool (rc s).1.kp, .int .i64 (rc s).1.dr, .string (rc s).1.ad]) ∧ Cu g kb o c bs (rc s).2 w' ∧ W.grownBy w' (some g))
    (E3 : ∀ (s : RS) (W : World), Cu g kb o c bs s W → Calls Tryz.prog 31 #[.pointer (some ⟨g, 0, none⟩)] W fun e w' => (∃ x1 c1 x2 c2, e = .returned (.agg #[.string (rf s).1.nm, .int .i64 (rf s).1.wh, .int .i64 (rf s).1.ce, .int .i64 (rf s).1.ba, .int .i64 (rf s).1.rg, .int .i64 (rf s).1.sl, .slice x1 (rf s).1.os.length c1, .slice x2 (rf s).1.ls.length c2]) ∧ FlQ (Fresh W.heap.size w'.heap.size) w' (rf s).1 x1 x2) ∧ Cu g kb o c bs (rf s).2 w' ∧ W.grownBy w' (some g))
    (E4 : ∀ (s : RS) (W : World), Cu g kb o c bs s W → Calls Tryz.prog 32 #[.pointer (some ⟨g, 0, none⟩)] W fun e w' => (∃ x1 c1 x2 c2, e = .returned (.agg #[.string (rj s).1.nm, .int .i64 (rj s).1.iv, .int .i64 (rj s).1.sg, .int .i64 (rj s).1.pr, .slice x1 (rj s).1.cs.length c1, .slice x2 (rj s).1.bs.length c2, .int .i64 (rj s).1.bd]) ∧ JbQ (Fresh W.heap.size w'.heap.size) w' (rj s).1 x1 x2) ∧ Cu g kb o c bs (rj s).2 w' ∧ W.grownBy w' (some g))
    (w : World) (h : Cu g kb o c bs s w) :
    Calls Tryz.prog 14 #[.pointer (some ⟨g, 0, none⟩)] w fun e w' => (∃ y2 c2 y3 c3 y4 c4, e = .returned (.agg #[.string v1, .slice y2 (rdKL rc N2.toNat s2).length c2, .slice y3 (rdKL rf N3.toNat s3).length c3, .slice y4 (rdKL rj N4.toNat s4).length c4]) ∧ RwF 11 ((fun S w => Is ceC) (Fresh w.heap.size w'.heap.size) w') (Fresh w.heap.size w'.heap.size) w' y2 (rdKL rc N2.toNat s2) ∧ RwF 8 (FlP (Fresh w.heap.size w'.heap.size) w') (Fresh w.heap.size w'.heap.size) w' y3 (rdKL rf N3.toNat s3) ∧ RwF 7 (JbP (Fresh w.heap.size w'.heap.size) w') (Fresh w.heap.size w'.heap.size) w' y4 (rdKL rj N4.toNat s4)) ∧ Cu g kb o c bs (rdEnd bs (rdKS rj N4.toNat s4)) w' ∧ w.grownBy w' (some g) := by
  have OKs : Hid _ := OKh
  have D2 : Hid _ := C2
  have D3 : Hid _ := C3
  have D4 : Hid _ := C4
  have H2 : Hid _ := E2
  have H3 : Hid _ := E3
  have H4 : Hid _ := E4
  clear OKh C2 C3 C4 E2 E3 E4
  obtain ⟨r, hr⟩ : ∃ r, w.heap.size = r := ⟨_, rfl⟩
  obtain ⟨A0, e0⟩ : ∃ A0, A0 = w.alloc (.cells #[.string ⟨#[]⟩, .slice none 0 0, .slice none 0 0, .slice none 0 0] 28 (0, 0)) := ⟨_, rfl⟩
  obtain ⟨AW, eW⟩ : ∃ AW, AW = A0.alloc (.cells #[.string ⟨#[]⟩, .slice none 0 0, .slice none 0 0, .slice none 0 0] 28 (0, 0)) := ⟨_, rfl⟩
  have S0 : A0.heap.size = r + 1 := by rw [e0, ← hr]; simp
  have R0 : Hid (Cu g kb o c bs s AW) := by rw [eW, e0]; exact (h.al _).al _
  have G0 : Hid (w.grownBy AW (some g)) := by rw [eW, e0]; exact gb_trans (gb_alloc _ _ _) (gb_alloc _ _ _)
  have X0 : Hid (AW.heap[r]? = some (.cells #[.string ⟨#[]⟩, .slice none 0 0, .slice none 0 0, .slice none 0 0] 28 (0, 0))) := by
    rw [eW]
    refine ((gb_alloc A0 _ none).block r (by omega) (by simp)).trans ?_
    rw [e0, ← hr]
    exact heap_alloc_last _ _
  have Y0 : Hid (AW.heap[r + 1]? = some (.cells #[.string ⟨#[]⟩, .slice none 0 0, .slice none 0 0, .slice none 0 0] 28 (0, 0))) := by rw [eW, ← S0]; exact heap_alloc_last _ _
  have NG : Hid (r ≠ g ∧ r + 1 ≠ g) := by have := h.lt; exact ⟨by omega, by omega⟩
  have RG : Hid (w.heap.size ≤ r) := by show _ ≤ _; omega
  have GR : Hid (g < r) := by have := h.lt; show _ < _; omega
  have NK : Hid (r ≠ kb ∧ r + 1 ≠ kb) := by have := h.kl; exact ⟨by omega, by omega⟩
  have D1 : Hid _ := C1
  clear h C1
  go_enter Tryz.func14, Tryz.ntmps14
  go_upto_region 1 with fail
  rw [← e0]
  clear e0
  go_upto_region 2 with fail
  try rw [S0]
  rw [← eW]
  clear eW S0 hr
  go_wp2_with (go_at_call 28; refine (D1.out _ R0.out).mono ?_)
  first | (rintro e w1 ⟨he, h1, g1⟩; have he' := he) | (rintro e w1 he h1 g1)
  subst he
  have x1 : w1.heap[r]? = some (.cells #[.string ⟨#[]⟩, .slice none 0 0, .slice none 0 0, .slice none 0 0] 28 (0, 0)) := (g1.block r (blk_in' X0.out) (by have := NG.out.1; intro q; cases q; exact this rfl)).trans X0.out
  have a1 : w1.heap[r + 1]? = some (.cells #[.string ⟨#[]⟩, .slice none 0 0, .slice none 0 0, .slice none 0 0] 28 (0, 0)) := (g1.block (r + 1) (blk_in' Y0.out) (by have := NG.out.2; intro q; cases q; exact this rfl)).trans Y0.out
  have b0 : w1.cell? ⟨r + 1, 0, none⟩ = some (.string ⟨#[]⟩) := by simp [World.cell?, a1]
  have z0 : w1.frozen? ⟨r + 1, 0, none⟩ = false := by simp [World.frozen?, a1]
  have U1 : Hid (w1.heap[r]? = some (.cells #[.string ⟨#[]⟩, .slice none 0 0, .slice none 0 0, .slice none 0 0] 28 (0, 0))) := x1
  have U2 : Hid (w1.heap[r + 1]? = some (.cells #[.string ⟨#[]⟩, .slice none 0 0, .slice none 0 0, .slice none 0 0] 28 (0, 0))) := a1
  have U3 : Hid (Cu g kb o c bs s1 w1) := h1
  have U4 : Hid (AW.grownBy w1 (some g)) := g1
  clear x1 a1 h1 g1 X0 Y0
  go_upto_region 3 with fail
  obtain ⟨V1, eV⟩ : ∃ V, V = (w1.setCell ⟨r + 1, 0, none⟩ (.string v1)) := ⟨_, rfl⟩
  rw [← eV]
  have R1 : Hid (Cu g kb o c bs s1 V1) := by rw [eV]; exact (Cu.setr U3.out NG.out.2 NK.out.2 _ _)
  have G1 : Hid (w.grownBy V1 (some g)) := by rw [eV]; exact (gb_setr (gb_trans G0.out U4.out) (Nat.le_succ_of_le RG.out) _ _)
  have K1 : Hid (w1.grownBy V1 (some (r + 1))) := by rw [eV]; exact gb_set _ _ _ _
  have X1 : Hid (V1.heap[r]? = some (.cells #[.string ⟨#[]⟩, .slice none 0 0, .slice none 0 0, .slice none 0 0] 28 (0, 0))) := (K1.out.block r (blk_in' U1.out) (by intro q; have := Option.some.inj q; omega)).trans U1.out
  have Y1 : Hid (V1.heap[r + 1]? = some (.cells #[.string v1, .slice none 0 0, .slice none 0 0, .slice none 0 0] 28 (0, 0))) := by rw [eV]; show _ = _; simp [World.setCell, Array.getElem?_modify, U2.out]
  have S1 : Hid (r + 2 ≤ V1.heap.size) := blk_in' Y1.out
  clear eV U1 U2 U3 U4 b0 z0 R0 G0 D1 K1
  go_wp2_with (go_at_call 29; refine (D2.out _ R1.out).mono ?_)
  first | (rintro e w2 ⟨he, h1, g1⟩; have he' := he) | (rintro e w2 he h1 g1)
  subst he
  have RB : Hid (Cu g kb o c bs s2 w2) := h1
  have YB : Hid (w2.heap[r + 1]? = some (.cells #[.string v1, .slice none 0 0, .slice none 0 0, .slice none 0 0] 28 (0, 0))) := (g1.block (r + 1) (blk_in' Y1.out) (by have := NG.out.2; intro q; exact this (Option.some.inj q))).trans Y1.out
  have XB : Hid (w2.heap[r]? = some (.cells #[.string ⟨#[]⟩, .slice none 0 0, .slice none 0 0, .slice none 0 0] 28 (0, 0))) := (g1.block r (blk_in' X1.out) (by have := NG.out.1; intro q; exact this (Option.some.inj q))).trans X1.out
  have GB : Hid (w.grownBy w2 (some g)) := gb_trans G1.out g1
  have SB : Hid (r + 2 ≤ w2.heap.size) := blk_in' YB.out
  have OK : Hid (0 ≤ N2 ∧ N2 ≤ 4194304) := OKs.out.1
  clear h1 g1 R1 Y1 X1 G1 D2
  go_upto_region 4 with fail
  go_wp2
  go_loopw [5] (fun i wr => ∃ (k : Nat) (t : RS) (v : Value), i = .int .i64 k ∧ LsI rc N2.toNat s2 k t ∧ wr.heap[r + 1]? = some (.cells #[.string v1, v, .slice none 0 0, .slice none 0 0] 28 (0, 0)) ∧ MkI 50 11 (fun S w => Is ceC) w2.heap.size (rdKL rc N2.toNat s2) k v wr ∧ Cu g kb o c bs t wr ∧ Kp g (r + 1) w2 wr) (fun i _ => N2.toNat - (intOf i).toNat)
  case atStart => exact ⟨0, s2, .slice none 0 0, rfl, LsI.zero, YB.out, MkI.zero _ _ _ _ _ _, RB.out, Kp.refl _ _ _⟩
  case round =>
    obtain ⟨k, t, v, rfl, hL, hY, hM, hR, hG⟩ := hrel
    have LI : Hid (LsI rc N2.toNat s2 k t) := hL
    have YI : Hid (wr.heap[r + 1]? = some (.cells #[.string v1, v, .slice none 0 0, .slice none 0 0] 28 (0, 0))) := hY
    have MI : Hid (MkI 50 11 (fun S w => Is ceC) w2.heap.size (rdKL rc N2.toNat s2) k v wr) := hM
    have RI : Hid (Cu g kb o c bs t wr) := hR
    have GI : Hid (Kp g (r + 1) w2 wr) := hG
    have fin : Hid (k = N2.toNat ∨ t.y ≠ 0 → ∃ y c2, wr.heap[r + 1]? = some (.cells #[.string v1, (.slice y (rdKL rc N2.toNat s2).length c2), .slice none 0 0, .slice none 0 0] 28 (0, 0)) ∧ RwF 11 ((fun S w => Is ceC) (Fresh w2.heap.size wr.heap.size) wr) (Fresh w2.heap.size wr.heap.size) wr y (rdKL rc N2.toNat s2) ∧ Cu g kb o c bs (rdKS rc N2.toNat s2) wr ∧ Kp g (r + 1) w2 wr) := fun q => by
      obtain ⟨e1, e2⟩ := hL.last q
      rw [e2]
      have fe : few (rdKL rc N2.toNat s2).length := by
        have := rdKL_len rc N2.toNat s2
        have := OK.out; show _ < _; omega
      have hM2 := hM
      rw [← e1] at hM2
      obtain ⟨y, c2, ey, hy⟩ := hM2.done (keptI _) fe
      exact ⟨y, c2, ey ▸ hY, hy, hR, hG⟩
    obtain ⟨c0, c1, c2, c3⟩ := hR.at_.cs
    clear hL hM hR hG hY
    go_upto_region 5 with fail
    go_cut [22] (fun sb wx => sb = .bool (decide ((k : Int) < N2) && decide (t.y = 0)) ∧ wx = wr)
    case first =>
      by_cases hlt : (k : Int) < N2
      · by_cases hy : t.y = 0
        · have EV : Hid ((decide ((k : Int) < N2) && decide (t.y = 0)) = true) := by show _ = _; simp [hlt, hy]
          go_wp2
          go_meet
          case rel => exact ⟨by rw [EV.out], rfl⟩
        · have EV : Hid ((decide ((k : Int) < N2) && decide (t.y = 0)) = false) := by show _ = _; simp [hlt, hy]
          have hy' : (t.y == 0) = false := by simp [hy]
          go_wp2
          go_meet
          case rel => exact ⟨by rw [EV.out], rfl⟩
      · have EV : Hid ((decide ((k : Int) < N2) && decide (t.y = 0)) = false) := by show _ = _; simp [hlt]
        go_wp2
        go_meet
        case rel => exact ⟨by rw [EV.out], rfl⟩
    case rest =>
      obtain ⟨rfl, hw⟩ := hcut
      rw [hw]
      clear hw
      by_cases hgo : (k : Int) < N2 ∧ t.y = 0
      · have hb : (decide ((k : Int) < N2) && decide (t.y = 0)) = true := by simp [hgo.1, hgo.2]
        rw [hb]
        have NX : Hid (LsI rc N2.toNat s2 (k + 1) (rc t).2) := LI.out.next (by omega) hgo.2
        have GE : Hid ((rdKL rc N2.toNat s2)[k]? = some (rc t).1) := LI.out.get (by omega) hgo.2
        have LE : Hid (k + 1 ≤ 4194304) := by have := OK.out; show _ ≤ _; omega
        have LT : Hid ((k : Int) < N2) := hgo.1
        clear fin LI hb hgo c0 c1 c2 c3
        have HC : Hid (∀ (W : World), Cu g kb o c bs t W → Calls Tryz.prog 30 #[.pointer (some ⟨g, 0, none⟩)] W fun e w' => e = .returned (.agg #[.int .u8 (rc t).1.kd, .bool (rc t).1.sb, .int .i64 (rc t).1.lo, .int .i64 (rc t).1.hi, .int .i64 (rc t).1.mx, .int .u8 (rc t).1.ik, .int .u64 (rc t).1.ib, .string (rc t).1.is, .bool (rc t).1.kp, .int .i64 (rc t).1.dr, .string (rc t).1.ad]) ∧ Cu g kb o c bs (rc t).2 w' ∧ W.grownBy w' (some g)) := H2.out t
        generalize (rc t).1 = ee at *
        generalize (rc t).2 = t2 at *
        obtain ⟨vss, ehs, hvn, how, hev⟩ := MI.out
        have EHS : Hid (vss.length = k) := ehs
        have HVN : Hid (∀ v ∈ vss, v.length = 11) := hvn
        have OW : Hid (wr.ownsRow w2.heap.size 50 11 v k vss.flatten) := how
        have EV : Hid _ := hev
        clear ehs hvn how hev MI
        have RN : Hid (r + 1 < w2.heap.size ∧ g < w2.heap.size ∧ kb < w2.heap.size ∧ r + 1 ≠ g ∧ r + 1 ≠ kb) := ⟨by have := SB.out; omega, RB.out.lt, RB.out.kl, NG.out.2, NK.out.2⟩
        go_upto_region 7 with fail
        refine wp_region_J 7 (fun V => V.heap[r + 1]? = some (.cells #[.string v1, v, .slice none 0 0, .slice none 0 0] 28 (0, 0))) (by kernel_rfl) YI.out (fun hHeld => ?_)
        refine wpAnyJ_take (i := 0) (v := .pointer (some ⟨r + 1, 1, none⟩)) rfl (by kernel_rfl) (by kernel_rfl) (by kernel_rfl) (by kernel_rfl) (fun _ _ _ h => h) (Or.inl ⟨by rfl, fun V hV => ?_⟩) hHeld ?_
        · go_simp
        simp only [Act.put, List.setIfInBounds_toArray, List.getElem_toArray, List.getElem_cons_zero, List.getElem_cons_succ, List.set_cons_zero, List.set_cons_succ]
        refine wpAnyJ_take (i := 1) (v := v) rfl (by kernel_rfl) (by kernel_rfl) (by kernel_rfl) (by kernel_rfl) (fun _ _ _ h => h) (Or.inl ⟨by rfl, fun V hV => ?_⟩) hHeld ?_
        · have cc : V.cell? ⟨r + 1, 1, none⟩ = some v := by simp [World.cell?, show V.heap[r + 1]? = _ from hV]
          go_simp
        simp only [Act.put, List.setIfInBounds_toArray, List.getElem_toArray, List.getElem_cons_zero, List.getElem_cons_succ, List.set_cons_zero, List.set_cons_succ]
        refine wpAnyJ_take (i := 2) (v := .pointer (some ⟨g, 0, none⟩)) rfl (by kernel_rfl) (by kernel_rfl) (by kernel_rfl) (by kernel_rfl) (fun _ _ _ h => h) (Or.inl ⟨by rfl, fun V hV => ?_⟩) hHeld ?_
        · go_simp
        simp only [Act.put, List.setIfInBounds_toArray, List.getElem_toArray, List.getElem_cons_zero, List.getElem_cons_succ, List.set_cons_zero, List.set_cons_succ]
        refine wpAnyJ_one (i := 3) (by kernel_rfl) rfl (fun K hK => ?_)
        go_simp
        refine (HC.out _ RI.out.drew).mono ?_
        rintro e w5 ⟨he, h5, g5⟩
        subst he
        have Y5 : w5.heap[r + 1]? = some (.cells #[.string v1, v, .slice none 0 0, .slice none 0 0] 28 (0, 0)) := (g5.block (r + 1) (blk_in' YI.out) (by have := RN.out.2.2.2.1; intro q; exact this (Option.some.inj q))).trans YI.out
        have R5 : Hid (Cu g kb o c bs t2 w5) := h5
        have G5 : Hid (wr.grownBy w5 (some g)) := ⟨g5.os, g5.tape, g5.output, g5.size, g5.block⟩
        clear h5 g5
        refine hK.out _ _ (fun _ => Y5) ?_
        clear hK K
        try simp only [Act.put, List.setIfInBounds_toArray, List.getElem_toArray, List.getElem_cons_zero, List.getElem_cons_succ, List.set_cons_zero, List.set_cons_succ]
        refine wpAnyJ_one (i := 4) (by kernel_rfl) rfl (fun K hK => ?_)
        go_simp
        have Y6 : Hid (∀ X : Obj, (w5.alloc X).heap[r + 1]? = some (.cells #[.string v1, v, .slice none 0 0, .slice none 0 0] 28 (0, 0))) := fun X => ((gb_alloc w5 X none).block (r + 1) (blk_in' Y5) (by simp)).trans Y5
        refine hK.out _ _ (fun _ => Y6.out _) ?_
        clear hK K hHeld
        try simp only [Act.put, List.setIfInBounds_toArray, List.getElem_toArray, List.getElem_cons_zero, List.getElem_cons_succ, List.set_cons_zero, List.set_cons_succ]
        refine wpAnyJ_one (i := 5) (by kernel_rfl) rfl (fun K hK => ?_)
        rw [if_pos (by rfl)]
        have OW5 : Hid (∀ X : Obj, (w5.alloc X).ownsRow w2.heap.size 50 11 v k vss.flatten) := fun X => (OW.out.kept G5.out (ob_ne OW.out.lt RN.out.2.1)).alloc X
        have NW : Hid (∀ j u, (ceC ee)[j]? = some u → (w5.alloc (.cells (ceC ee).toArray 50)).cell? ((⟨w5.heap.size, 0, none⟩ : Addr).add j) = some u) := fun j u h => mk_cells w5 _ _ j u h
        have BZ : Hid (∀ X : Obj, w2.heap.size ≤ (w5.alloc X).heap.size) := fun X => by have := GI.out.size; have := G5.out.size; simp; omega
        obtain ⟨i, z, hi, hz, hs', hy, hzc⟩ := infRlC
        refine wp_app_at _ _ 24 rfl w2.heap.size 50 i z 11 96 Tryz.underlying24 hi hz hs' hy hzc (by decide) v k vss.flatten rfl (OW5.out _) ⟨w5.heap.size, 0, none⟩ 1 1 (ceC ee) rfl rfl NW.out (by intro u hu; simp at hu; rcases hu with h | h | h | h | h | h | h | h | h | h | h <;> subst h <;> rfl) (by have := LE.out; simp [maxLen]; omega) (by have := LE.out; omega) (BZ.out _) ?_
        intro v' wz q1 q2 q3 q4
        obtain ⟨vx, vc, rfl⟩ := own_form q1
        have Q1 : Hid _ := q1
        have Q2 : Hid ((w5.alloc (.cells (ceC ee).toArray 50)).grownBy wz v.ownBlock) := q2
        have Q4 : Hid _ := q4
        clear q1 q2 q3 q4 hi hz hs' hy hzc
        have hob : ∀ i, v.ownBlock = some i → w2.heap.size ≤ i := fun i hi => (OW.out.lt i hi).1
        have Y7 : wz.heap[r + 1]? = some (.cells #[.string v1, v, .slice none 0 0, .slice none 0 0] 28 (0, 0)) := (Q2.out.block (r + 1) (blk_in' (Y6.out _)) (fun e => by have := hob _ e.symm; have := RN.out.1; omega)).trans (Y6.out _)
        refine hK.out _ _ (fun _ => Y7) ?_
        clear hK K
        try simp only [Act.put, List.setIfInBounds_toArray, List.getElem_toArray, List.getElem_cons_zero, List.getElem_cons_succ, List.set_cons_zero, List.set_cons_succ]
        refine wpAnyJ_one (i := 6) (by kernel_rfl) rfl (fun K hK => ?_)
        go_simp
        refine hK.out _ _ (fun _ => Y7) ?_
        clear hK K
        try simp only [Act.put, List.setIfInBounds_toArray, List.getElem_toArray, List.getElem_cons_zero, List.getElem_cons_succ, List.set_cons_zero, List.set_cons_succ]
        have cc : wz.cell? ⟨r + 1, 1, none⟩ = some v := by simp [World.cell?, Y7]
        have cz : wz.frozen? ⟨r + 1, 1, none⟩ = false := by simp [World.frozen?, Y7]
        refine wpAnyJ_one (i := 7) (by kernel_rfl) rfl (fun K hK => ?_)
        go_simp
        refine hK.out _ _ (fun h => nomatch (show true = false from h)) ?_
        clear hK K cc cz
        refine wpAnyJ_done (by kernel_rfl) ?_ _
        obtain ⟨wy, e8⟩ : ∃ wy, wy = wz.setCell ⟨r + 1, 1, none⟩ (.slice vx (k + 1) vc) := ⟨_, rfl⟩
        rw [← e8]
        have B5 : wr.grownBy (w5.alloc (.cells (ceC ee).toArray 50)) (some g) := gb_trans G5.out (gb_alloc _ _ _)
        have Y8 : Hid (wy.heap[r + 1]? = some (.cells #[.string v1, (.slice vx (k + 1) vc), .slice none 0 0, .slice none 0 0] 28 (0, 0))) := by rw [e8]; show _ = _; simp [World.setCell, Array.getElem?_modify, Y7]
        have M8 : Hid (MkI 50 11 (fun S w => Is ceC) w2.heap.size (rdKL rc N2.toNat s2) (k + 1) (.slice vx (k + 1) vc) wy) := by rw [e8]; exact MkI.setc (keptI _) (MkI.stepG (keptI _) RN.out.2.1 EHS.out HVN.out EV.out OW.out.lt _ _ GE.out rfl GI.out.size B5 rfl Q2.out Q1.out Q4.out) RN.out.1
        have R8 : Hid (Cu g kb o c bs t2 wy) := by
          rw [e8]
          exact ((R5.out.al _).grown Q2.out (fun q => by have := hob _ q; have := RN.out.2.1; omega) (fun q => by have := hob _ q; have := RN.out.2.2.1; omega)).setr RN.out.2.2.2.1 RN.out.2.2.2.2 _ _
        have G8 : Hid (Kp g (r + 1) w2 wy) := by rw [e8]; exact (Kp.own Q2.out hob (GI.out.trans (Kp.of B5))).set _ _
        clear e8 Y7 B5 hob Q1 Q2 Q4 OW EV EHS HVN G5 R5 Y6 Y5
        have ew : wrap64 ((k : Int) + 1) = (k : Int) + 1 := by have := LE.out; unfold wrap64; omega
        go_step
        go_wp2
        rw [ew]
        refine ⟨⟨k + 1, t2, (.slice vx (k + 1) vc), rfl, NX.out, Y8.out, M8.out, R8.out, G8.out⟩, ?_⟩
        have := LT.out
        show N2.toNat - ((k : Int) + 1).toNat < N2.toNat - (k : Int).toNat
        omega
      · have hb : (decide ((k : Int) < N2) && decide (t.y = 0)) = false := by
          by_cases q : (k : Int) < N2
          · have : ¬ t.y = 0 := fun z => hgo ⟨q, z⟩
            simp [this]
          · simp [q]
        rw [hb]
        have F2 : Hid (∃ y c2, wr.heap[r + 1]? = some (.cells #[.string v1, (.slice y (rdKL rc N2.toNat s2).length c2), .slice none 0 0, .slice none 0 0] 28 (0, 0)) ∧ RwF 11 ((fun S w => Is ceC) (Fresh w2.heap.size wr.heap.size) wr) (Fresh w2.heap.size wr.heap.size) wr y (rdKL rc N2.toNat s2) ∧ Cu g kb o c bs (rdKS rc N2.toNat s2) wr ∧ Kp g (r + 1) w2 wr) := fin.out (by
          have := LI.out.1
          by_cases q : (k : Int) < N2
          · exact Or.inr (fun z => hgo ⟨q, z⟩)
          · exact Or.inl (by omega))
        clear fin LI MI RI GI YI hb hgo c0 c1 c2 c3
        obtain ⟨y2, k2, hY, hQ, hR, hKp⟩ := F2.out
        have RE : Hid (Cu g kb o c bs (rdKS rc N2.toNat s2) wr) := hR
        clear F2
        go_wp2_with (go_at_call 29; refine (D3.out _ RE.out).mono ?_)
        first | (rintro e w3 ⟨he, h1, g1⟩; have he' := he) | (rintro e w3 he h1 g1)
        subst he
        have RB' : Hid (Cu g kb o c bs s3 w3) := h1
        have YB' : Hid (w3.heap[r + 1]? = some (.cells #[.string v1, (.slice y2 (rdKL rc N2.toNat s2).length k2), .slice none 0 0, .slice none 0 0] 28 (0, 0))) := (g1.block (r + 1) (blk_in' hY) (by have := NG.out.2; intro q; exact this (Option.some.inj q))).trans hY
        have XB' : Hid (w3.heap[r]? = some (.cells #[.string ⟨#[]⟩, .slice none 0 0, .slice none 0 0, .slice none 0 0] 28 (0, 0))) := (g1.block r (by have := hKp.size; have := SB.out; omega) (by have := NG.out.1; intro q; exact this (Option.some.inj q))).trans ((hKp.block r (by have := SB.out; omega) NG.out.1 (by omega)).trans XB.out)
        have GB' : Hid (w.grownBy w3 (some g)) := gb_trans (Kp.gb GB.out hKp (Nat.le_succ_of_le RG.out)) g1
        have QA : Hid (RwF 11 ((fun S w => Is ceC) (Fresh (r + 2) w3.heap.size) w3) (Fresh (r + 2) w3.heap.size) w3 y2 (rdKL rc N2.toNat s2)) := rw_keep (P := (fun S w => Is ceC)) (keptI _) (RwF.subK (P := (fun S w => Is ceC)) (keptI _) (up_sub' SB.out (Nat.le_refl _)) hQ) g1 (by have := GR.out; omega)
        have SB' : Hid (r + 2 ≤ w3.heap.size) := blk_in' YB'.out
        clear h1 g1 RE hY hQ hR hKp RB YB XB GB SB D3 OK
        have RB := RB'
        have YB := YB'
        have XB := XB'
        have GB := GB'
        have SB := SB'
        have OK : Hid _ := OKs.out.2.1
        clear RB' YB' XB' GB' SB'
        go_upto_region 9 with fail
        go_wp2
        go_loopw [6] (fun i wr => ∃ (k : Nat) (t : RS) (v : Value), i = .int .i64 k ∧ LsI rf N3.toNat s3 k t ∧ wr.heap[r + 1]? = some (.cells #[.string v1, (.slice y2 (rdKL rc N2.toNat s2).length k2), v, .slice none 0 0] 28 (0, 0)) ∧ MkI 78 8 FlP w3.heap.size (rdKL rf N3.toNat s3) k v wr ∧ Cu g kb o c bs t wr ∧ Kp g (r + 1) w3 wr) (fun i _ => N3.toNat - (intOf i).toNat)
        case atStart => exact ⟨0, s3, .slice none 0 0, rfl, LsI.zero, YB.out, MkI.zero _ _ _ _ _ _, RB.out, Kp.refl _ _ _⟩
        case round =>
          obtain ⟨k, t, v, rfl, hL, hY, hM, hR, hG⟩ := hrel
          have LI : Hid (LsI rf N3.toNat s3 k t) := hL
          have YI : Hid (wr.heap[r + 1]? = some (.cells #[.string v1, (.slice y2 (rdKL rc N2.toNat s2).length k2), v, .slice none 0 0] 28 (0, 0))) := hY
          have MI : Hid (MkI 78 8 FlP w3.heap.size (rdKL rf N3.toNat s3) k v wr) := hM
          have RI : Hid (Cu g kb o c bs t wr) := hR
          have GI : Hid (Kp g (r + 1) w3 wr) := hG
          have fin : Hid (k = N3.toNat ∨ t.y ≠ 0 → ∃ y c2, wr.heap[r + 1]? = some (.cells #[.string v1, (.slice y2 (rdKL rc N2.toNat s2).length k2), (.slice y (rdKL rf N3.toNat s3).length c2), .slice none 0 0] 28 (0, 0)) ∧ RwF 8 (FlP (Fresh w3.heap.size wr.heap.size) wr) (Fresh w3.heap.size wr.heap.size) wr y (rdKL rf N3.toNat s3) ∧ Cu g kb o c bs (rdKS rf N3.toNat s3) wr ∧ Kp g (r + 1) w3 wr) := fun q => by
            obtain ⟨e1, e2⟩ := hL.last q
            rw [e2]
            have fe : few (rdKL rf N3.toNat s3).length := by
              have := rdKL_len rf N3.toNat s3
              have := OK.out; show _ < _; omega
            have hM2 := hM
            rw [← e1] at hM2
            obtain ⟨y, c2, ey, hy⟩ := hM2.done keptF fe
            exact ⟨y, c2, ey ▸ hY, hy, hR, hG⟩
          obtain ⟨c0, c1, c2, c3⟩ := hR.at_.cs
          clear hL hM hR hG hY
          go_upto_region 10 with fail
          go_cut [43] (fun sb wx => sb = .bool (decide ((k : Int) < N3) && decide (t.y = 0)) ∧ wx = wr)
          case first =>
            by_cases hlt : (k : Int) < N3
            · by_cases hy : t.y = 0
              · have EV : Hid ((decide ((k : Int) < N3) && decide (t.y = 0)) = true) := by show _ = _; simp [hlt, hy]
                go_wp2
                go_meet
                case rel => exact ⟨by rw [EV.out], rfl⟩
              · have EV : Hid ((decide ((k : Int) < N3) && decide (t.y = 0)) = false) := by show _ = _; simp [hlt, hy]
                have hy' : (t.y == 0) = false := by simp [hy]
                go_wp2
                go_meet
                case rel => exact ⟨by rw [EV.out], rfl⟩
            · have EV : Hid ((decide ((k : Int) < N3) && decide (t.y = 0)) = false) := by show _ = _; simp [hlt]
              go_wp2
              go_meet
              case rel => exact ⟨by rw [EV.out], rfl⟩
          case rest =>
            obtain ⟨rfl, hw⟩ := hcut
            rw [hw]
            clear hw
            by_cases hgo : (k : Int) < N3 ∧ t.y = 0
            · have hb : (decide ((k : Int) < N3) && decide (t.y = 0)) = true := by simp [hgo.1, hgo.2]
              rw [hb]
              have NX : Hid (LsI rf N3.toNat s3 (k + 1) (rf t).2) := LI.out.next (by omega) hgo.2
              have GE : Hid ((rdKL rf N3.toNat s3)[k]? = some (rf t).1) := LI.out.get (by omega) hgo.2
              have LE : Hid (k + 1 ≤ 4194304) := by have := OK.out; show _ ≤ _; omega
              have LT : Hid ((k : Int) < N3) := hgo.1
              clear fin LI hb hgo c0 c1 c2 c3
              have HC : Hid (∀ (W : World), Cu g kb o c bs t W → Calls Tryz.prog 31 #[.pointer (some ⟨g, 0, none⟩)] W fun e w' => (∃ x1 c1 x2 c2, e = .returned (.agg #[.string (rf t).1.nm, .int .i64 (rf t).1.wh, .int .i64 (rf t).1.ce, .int .i64 (rf t).1.ba, .int .i64 (rf t).1.rg, .int .i64 (rf t).1.sl, .slice x1 (rf t).1.os.length c1, .slice x2 (rf t).1.ls.length c2]) ∧ FlQ (Fresh W.heap.size w'.heap.size) w' (rf t).1 x1 x2) ∧ Cu g kb o c bs (rf t).2 w' ∧ W.grownBy w' (some g)) := H3.out t
              generalize (rf t).1 = ee at *
              generalize (rf t).2 = t2 at *
              obtain ⟨vss, ehs, hvn, how, hev⟩ := MI.out
              have EHS : Hid (vss.length = k) := ehs
              have HVN : Hid (∀ v ∈ vss, v.length = 8) := hvn
              have OW : Hid (wr.ownsRow w3.heap.size 78 8 v k vss.flatten) := how
              have EV : Hid _ := hev
              clear ehs hvn how hev MI
              have RN : Hid (r + 1 < w3.heap.size ∧ g < w3.heap.size ∧ kb < w3.heap.size ∧ r + 1 ≠ g ∧ r + 1 ≠ kb) := ⟨by have := SB.out; omega, RB.out.lt, RB.out.kl, NG.out.2, NK.out.2⟩
              go_upto_region 12 with fail
              refine wp_region_J 7 (fun V => V.heap[r + 1]? = some (.cells #[.string v1, (.slice y2 (rdKL rc N2.toNat s2).length k2), v, .slice none 0 0] 28 (0, 0))) (by kernel_rfl) YI.out (fun hHeld => ?_)
              refine wpAnyJ_take (i := 0) (v := .pointer (some ⟨r + 1, 2, none⟩)) rfl (by kernel_rfl) (by kernel_rfl) (by kernel_rfl) (by kernel_rfl) (fun _ _ _ h => h) (Or.inl ⟨by rfl, fun V hV => ?_⟩) hHeld ?_
              · go_simp
              simp only [Act.put, List.setIfInBounds_toArray, List.getElem_toArray, List.getElem_cons_zero, List.getElem_cons_succ, List.set_cons_zero, List.set_cons_succ]
              refine wpAnyJ_take (i := 1) (v := v) rfl (by kernel_rfl) (by kernel_rfl) (by kernel_rfl) (by kernel_rfl) (fun _ _ _ h => h) (Or.inl ⟨by rfl, fun V hV => ?_⟩) hHeld ?_
              · have cc : V.cell? ⟨r + 1, 2, none⟩ = some v := by simp [World.cell?, show V.heap[r + 1]? = _ from hV]
                go_simp
              simp only [Act.put, List.setIfInBounds_toArray, List.getElem_toArray, List.getElem_cons_zero, List.getElem_cons_succ, List.set_cons_zero, List.set_cons_succ]
              refine wpAnyJ_take (i := 2) (v := .pointer (some ⟨g, 0, none⟩)) rfl (by kernel_rfl) (by kernel_rfl) (by kernel_rfl) (by kernel_rfl) (fun _ _ _ h => h) (Or.inl ⟨by rfl, fun V hV => ?_⟩) hHeld ?_
              · go_simp
              simp only [Act.put, List.setIfInBounds_toArray, List.getElem_toArray, List.getElem_cons_zero, List.getElem_cons_succ, List.set_cons_zero, List.set_cons_succ]
              refine wpAnyJ_one (i := 3) (by kernel_rfl) rfl (fun K hK => ?_)
              go_simp
              refine (HC.out _ RI.out.drew).mono ?_
              rintro e w5 ⟨⟨z1, d1, z2, d2, he, fq⟩, h5, g5⟩
              subst he
              have Y5 : w5.heap[r + 1]? = some (.cells #[.string v1, (.slice y2 (rdKL rc N2.toNat s2).length k2), v, .slice none 0 0] 28 (0, 0)) := (g5.block (r + 1) (blk_in' YI.out) (by have := RN.out.2.2.2.1; intro q; exact this (Option.some.inj q))).trans YI.out
              have R5 : Hid (Cu g kb o c bs t2 w5) := h5
              have G5 : Hid (wr.grownBy w5 (some g)) := ⟨g5.os, g5.tape, g5.output, g5.size, g5.block⟩
              have F5 : Hid (FlQ (Fresh wr.heap.size w5.heap.size) w5 ee z1 z2) := fq
              clear fq
              clear h5 g5
              refine hK.out _ _ (fun _ => Y5) ?_
              clear hK K
              try simp only [Act.put, List.setIfInBounds_toArray, List.getElem_toArray, List.getElem_cons_zero, List.getElem_cons_succ, List.set_cons_zero, List.set_cons_succ]
              refine wpAnyJ_one (i := 4) (by kernel_rfl) rfl (fun K hK => ?_)
              go_simp
              have Y6 : Hid (∀ X : Obj, (w5.alloc X).heap[r + 1]? = some (.cells #[.string v1, (.slice y2 (rdKL rc N2.toNat s2).length k2), v, .slice none 0 0] 28 (0, 0))) := fun X => ((gb_alloc w5 X none).block (r + 1) (blk_in' Y5) (by simp)).trans Y5
              refine hK.out _ _ (fun _ => Y6.out _) ?_
              clear hK K hHeld
              try simp only [Act.put, List.setIfInBounds_toArray, List.getElem_toArray, List.getElem_cons_zero, List.getElem_cons_succ, List.set_cons_zero, List.set_cons_succ]
              refine wpAnyJ_one (i := 5) (by kernel_rfl) rfl (fun K hK => ?_)
              rw [if_pos (by rfl)]
              have OW5 : Hid (∀ X : Obj, (w5.alloc X).ownsRow w3.heap.size 78 8 v k vss.flatten) := fun X => (OW.out.kept G5.out (ob_ne OW.out.lt RN.out.2.1)).alloc X
              have NW : Hid (∀ j u, (flC ee (.slice z1 ee.os.length d1) (.slice z2 ee.ls.length d2))[j]? = some u → (w5.alloc (.cells (flC ee (.slice z1 ee.os.length d1) (.slice z2 ee.ls.length d2)).toArray 78)).cell? ((⟨w5.heap.size, 0, none⟩ : Addr).add j) = some u) := fun j u h => mk_cells w5 _ _ j u h
              have BZ : Hid (∀ X : Obj, w3.heap.size ≤ (w5.alloc X).heap.size) := fun X => by have := GI.out.size; have := G5.out.size; simp; omega
              obtain ⟨i, z, hi, hz, hs', hy, hzc⟩ := infRlF
              refine wp_app_at _ _ 25 rfl w3.heap.size 78 i z 8 104 Tryz.underlying25 hi hz hs' hy hzc (by decide) v k vss.flatten rfl (OW5.out _) ⟨w5.heap.size, 0, none⟩ 1 1 (flC ee (.slice z1 ee.os.length d1) (.slice z2 ee.ls.length d2)) rfl rfl NW.out (by intro u hu; simp at hu; rcases hu with h | h | h | h | h | h | h | h <;> subst h <;> rfl) (by have := LE.out; simp [maxLen]; omega) (by have := LE.out; omega) (BZ.out _) ?_
              intro v' wz q1 q2 q3 q4
              obtain ⟨vx, vc, rfl⟩ := own_form q1
              have Q1 : Hid _ := q1
              have Q2 : Hid ((w5.alloc (.cells (flC ee (.slice z1 ee.os.length d1) (.slice z2 ee.ls.length d2)).toArray 78)).grownBy wz v.ownBlock) := q2
              have Q4 : Hid _ := q4
              clear q1 q2 q3 q4 hi hz hs' hy hzc
              have hob : ∀ i, v.ownBlock = some i → w3.heap.size ≤ i := fun i hi => (OW.out.lt i hi).1
              have Y7 : wz.heap[r + 1]? = some (.cells #[.string v1, (.slice y2 (rdKL rc N2.toNat s2).length k2), v, .slice none 0 0] 28 (0, 0)) := (Q2.out.block (r + 1) (blk_in' (Y6.out _)) (fun e => by have := hob _ e.symm; have := RN.out.1; omega)).trans (Y6.out _)
              refine hK.out _ _ (fun _ => Y7) ?_
              clear hK K
              try simp only [Act.put, List.setIfInBounds_toArray, List.getElem_toArray, List.getElem_cons_zero, List.getElem_cons_succ, List.set_cons_zero, List.set_cons_succ]
              refine wpAnyJ_one (i := 6) (by kernel_rfl) rfl (fun K hK => ?_)
              go_simp
              refine hK.out _ _ (fun _ => Y7) ?_
              clear hK K
              try simp only [Act.put, List.setIfInBounds_toArray, List.getElem_toArray, List.getElem_cons_zero, List.getElem_cons_succ, List.set_cons_zero, List.set_cons_succ]
              have cc : wz.cell? ⟨r + 1, 2, none⟩ = some v := by simp [World.cell?, Y7]
              have cz : wz.frozen? ⟨r + 1, 2, none⟩ = false := by simp [World.frozen?, Y7]
              refine wpAnyJ_one (i := 7) (by kernel_rfl) rfl (fun K hK => ?_)
              go_simp
              refine hK.out _ _ (fun h => nomatch (show true = false from h)) ?_
              clear hK K cc cz
              refine wpAnyJ_done (by kernel_rfl) ?_ _
              obtain ⟨wy, e8⟩ : ∃ wy, wy = wz.setCell ⟨r + 1, 2, none⟩ (.slice vx (k + 1) vc) := ⟨_, rfl⟩
              rw [← e8]
              have B5 : wr.grownBy (w5.alloc (.cells (flC ee (.slice z1 ee.os.length d1) (.slice z2 ee.ls.length d2)).toArray 78)) (some g) := gb_trans G5.out (gb_alloc _ _ _)
              have Y8 : Hid (wy.heap[r + 1]? = some (.cells #[.string v1, (.slice y2 (rdKL rc N2.toNat s2).length k2), (.slice vx (k + 1) vc), .slice none 0 0] 28 (0, 0))) := by rw [e8]; show _ = _; simp [World.setCell, Array.getElem?_modify, Y7]
              have M8 : Hid (MkI 78 8 FlP w3.heap.size (rdKL rf N3.toNat s3) (k + 1) (.slice vx (k + 1) vc) wy) := by rw [e8]; exact MkI.setc keptF (MkI.stepG keptF RN.out.2.1 EHS.out HVN.out EV.out OW.out.lt _ _ GE.out rfl GI.out.size B5 ⟨z1, d1, z2, d2, rfl, (F5.out.fr (fun q hq => World.cell?_of_block ((gb_alloc _ _ none).block _ hq.2 (by simp)))).sub (up_sub' (Nat.le_refl _) (gb_alloc _ _ none).size)⟩ Q2.out Q1.out Q4.out) RN.out.1
              have R8 : Hid (Cu g kb o c bs t2 wy) := by
                rw [e8]
                exact ((R5.out.al _).grown Q2.out (fun q => by have := hob _ q; have := RN.out.2.1; omega) (fun q => by have := hob _ q; have := RN.out.2.2.1; omega)).setr RN.out.2.2.2.1 RN.out.2.2.2.2 _ _
              have G8 : Hid (Kp g (r + 1) w3 wy) := by rw [e8]; exact (Kp.own Q2.out hob (GI.out.trans (Kp.of B5))).set _ _
              clear e8 Y7 B5 hob Q1 Q2 Q4 OW EV EHS HVN G5 R5 Y6 Y5
              have ew : wrap64 ((k : Int) + 1) = (k : Int) + 1 := by have := LE.out; unfold wrap64; omega
              go_step
              go_wp2
              rw [ew]
              refine ⟨⟨k + 1, t2, (.slice vx (k + 1) vc), rfl, NX.out, Y8.out, M8.out, R8.out, G8.out⟩, ?_⟩
              have := LT.out
              show N3.toNat - ((k : Int) + 1).toNat < N3.toNat - (k : Int).toNat
              omega
            · have hb : (decide ((k : Int) < N3) && decide (t.y = 0)) = false := by
                by_cases q : (k : Int) < N3
                · have : ¬ t.y = 0 := fun z => hgo ⟨q, z⟩
                  simp [this]
                · simp [q]
              rw [hb]
              have F2 : Hid (∃ y c2, wr.heap[r + 1]? = some (.cells #[.string v1, (.slice y2 (rdKL rc N2.toNat s2).length k2), (.slice y (rdKL rf N3.toNat s3).length c2), .slice none 0 0] 28 (0, 0)) ∧ RwF 8 (FlP (Fresh w3.heap.size wr.heap.size) wr) (Fresh w3.heap.size wr.heap.size) wr y (rdKL rf N3.toNat s3) ∧ Cu g kb o c bs (rdKS rf N3.toNat s3) wr ∧ Kp g (r + 1) w3 wr) := fin.out (by
                have := LI.out.1
                by_cases q : (k : Int) < N3
                · exact Or.inr (fun z => hgo ⟨q, z⟩)
                · exact Or.inl (by omega))
              clear fin LI MI RI GI YI hb hgo c0 c1 c2 c3
              obtain ⟨y3, k3, hY, hQ, hR, hKp⟩ := F2.out
              have RE : Hid (Cu g kb o c bs (rdKS rf N3.toNat s3) wr) := hR
              clear F2
              go_wp2_with (go_at_call 29; refine (D4.out _ RE.out).mono ?_)
              first | (rintro e w4 ⟨he, h1, g1⟩; have he' := he) | (rintro e w4 he h1 g1)
              subst he
              have RB' : Hid (Cu g kb o c bs s4 w4) := h1
              have YB' : Hid (w4.heap[r + 1]? = some (.cells #[.string v1, (.slice y2 (rdKL rc N2.toNat s2).length k2), (.slice y3 (rdKL rf N3.toNat s3).length k3), .slice none 0 0] 28 (0, 0))) := (g1.block (r + 1) (blk_in' hY) (by have := NG.out.2; intro q; exact this (Option.some.inj q))).trans hY
              have XB' : Hid (w4.heap[r]? = some (.cells #[.string ⟨#[]⟩, .slice none 0 0, .slice none 0 0, .slice none 0 0] 28 (0, 0))) := (g1.block r (by have := hKp.size; have := SB.out; omega) (by have := NG.out.1; intro q; exact this (Option.some.inj q))).trans ((hKp.block r (by have := SB.out; omega) NG.out.1 (by omega)).trans XB.out)
              have GB' : Hid (w.grownBy w4 (some g)) := gb_trans (Kp.gb GB.out hKp (Nat.le_succ_of_le RG.out)) g1
              have QB : Hid (RwF 8 (FlP (Fresh (r + 2) w4.heap.size) w4) (Fresh (r + 2) w4.heap.size) w4 y3 (rdKL rf N3.toNat s3)) := rw_keep (P := FlP) keptF (RwF.subK (P := FlP) keptF (up_sub' SB.out (Nat.le_refl _)) hQ) g1 (by have := GR.out; omega)
              have QA' : Hid (RwF 11 ((fun S w => Is ceC) (Fresh (r + 2) w4.heap.size) w4) (Fresh (r + 2) w4.heap.size) w4 y2 (rdKL rc N2.toNat s2)) := rw_keep (P := (fun S w => Is ceC)) (keptI _) (rw_kp (P := (fun S w => Is ceC)) (keptI _) QA.out hKp (by have := GR.out; omega) (by omega)) g1 (by have := GR.out; omega)
              clear QA
              have QA := QA'
              clear QA'
              have SB' : Hid (r + 2 ≤ w4.heap.size) := blk_in' YB'.out
              clear h1 g1 RE hY hQ hR hKp RB YB XB GB SB D4 OK
              have RB := RB'
              have YB := YB'
              have XB := XB'
              have GB := GB'
              have SB := SB'
              have OK : Hid _ := OKs.out.2.2
              clear RB' YB' XB' GB' SB'
              go_upto_region 14 with fail
              go_wp2
              go_loopw [7] (fun i wr => ∃ (k : Nat) (t : RS) (v : Value), i = .int .i64 k ∧ LsI rj N4.toNat s4 k t ∧ wr.heap[r + 1]? = some (.cells #[.string v1, (.slice y2 (rdKL rc N2.toNat s2).length k2), (.slice y3 (rdKL rf N3.toNat s3).length k3), v] 28 (0, 0)) ∧ MkI 55 7 JbP w4.heap.size (rdKL rj N4.toNat s4) k v wr ∧ Cu g kb o c bs t wr ∧ Kp g (r + 1) w4 wr) (fun i _ => N4.toNat - (intOf i).toNat)
              case atStart => exact ⟨0, s4, .slice none 0 0, rfl, LsI.zero, YB.out, MkI.zero _ _ _ _ _ _, RB.out, Kp.refl _ _ _⟩
              case round =>
                obtain ⟨k, t, v, rfl, hL, hY, hM, hR, hG⟩ := hrel
                have LI : Hid (LsI rj N4.toNat s4 k t) := hL
                have YI : Hid (wr.heap[r + 1]? = some (.cells #[.string v1, (.slice y2 (rdKL rc N2.toNat s2).length k2), (.slice y3 (rdKL rf N3.toNat s3).length k3), v] 28 (0, 0))) := hY
                have MI : Hid (MkI 55 7 JbP w4.heap.size (rdKL rj N4.toNat s4) k v wr) := hM
                have RI : Hid (Cu g kb o c bs t wr) := hR
                have GI : Hid (Kp g (r + 1) w4 wr) := hG
                have fin : Hid (k = N4.toNat ∨ t.y ≠ 0 → ∃ y c2, wr.heap[r + 1]? = some (.cells #[.string v1, (.slice y2 (rdKL rc N2.toNat s2).length k2), (.slice y3 (rdKL rf N3.toNat s3).length k3), (.slice y (rdKL rj N4.toNat s4).length c2)] 28 (0, 0)) ∧ RwF 7 (JbP (Fresh w4.heap.size wr.heap.size) wr) (Fresh w4.heap.size wr.heap.size) wr y (rdKL rj N4.toNat s4) ∧ Cu g kb o c bs (rdKS rj N4.toNat s4) wr ∧ Kp g (r + 1) w4 wr) := fun q => by
                  obtain ⟨e1, e2⟩ := hL.last q
                  rw [e2]
                  have fe : few (rdKL rj N4.toNat s4).length := by
                    have := rdKL_len rj N4.toNat s4
                    have := OK.out; show _ < _; omega
                  have hM2 := hM
                  rw [← e1] at hM2
                  obtain ⟨y, c2, ey, hy⟩ := hM2.done keptJ fe
                  exact ⟨y, c2, ey ▸ hY, hy, hR, hG⟩
                obtain ⟨c0, c1, c2, c3⟩ := hR.at_.cs
                clear hL hM hR hG hY
                go_upto_region 15 with fail
                go_cut [64] (fun sb wx => sb = .bool (decide ((k : Int) < N4) && decide (t.y = 0)) ∧ wx = wr)
                case first =>
                  by_cases hlt : (k : Int) < N4
                  · by_cases hy : t.y = 0
                    · have EV : Hid ((decide ((k : Int) < N4) && decide (t.y = 0)) = true) := by show _ = _; simp [hlt, hy]
                      go_wp2
                      go_meet
                      case rel => exact ⟨by rw [EV.out], rfl⟩
                    · have EV : Hid ((decide ((k : Int) < N4) && decide (t.y = 0)) = false) := by show _ = _; simp [hlt, hy]
                      have hy' : (t.y == 0) = false := by simp [hy]
                      go_wp2
                      go_meet
                      case rel => exact ⟨by rw [EV.out], rfl⟩
                  · have EV : Hid ((decide ((k : Int) < N4) && decide (t.y = 0)) = false) := by show _ = _; simp [hlt]
                    go_wp2
                    go_meet
                    case rel => exact ⟨by rw [EV.out], rfl⟩
                case rest =>
                  obtain ⟨rfl, hw⟩ := hcut
                  rw [hw]
                  clear hw
                  by_cases hgo : (k : Int) < N4 ∧ t.y = 0
                  · have hb : (decide ((k : Int) < N4) && decide (t.y = 0)) = true := by simp [hgo.1, hgo.2]
                    rw [hb]
                    have NX : Hid (LsI rj N4.toNat s4 (k + 1) (rj t).2) := LI.out.next (by omega) hgo.2
                    have GE : Hid ((rdKL rj N4.toNat s4)[k]? = some (rj t).1) := LI.out.get (by omega) hgo.2
                    have LE : Hid (k + 1 ≤ 4194304) := by have := OK.out; show _ ≤ _; omega
                    have LT : Hid ((k : Int) < N4) := hgo.1
                    clear fin LI hb hgo c0 c1 c2 c3
                    have HC : Hid (∀ (W : World), Cu g kb o c bs t W → Calls Tryz.prog 32 #[.pointer (some ⟨g, 0, none⟩)] W fun e w' => (∃ x1 c1 x2 c2, e = .returned (.agg #[.string (rj t).1.nm, .int .i64 (rj t).1.iv, .int .i64 (rj t).1.sg, .int .i64 (rj t).1.pr, .slice x1 (rj t).1.cs.length c1, .slice x2 (rj t).1.bs.length c2, .int .i64 (rj t).1.bd]) ∧ JbQ (Fresh W.heap.size w'.heap.size) w' (rj t).1 x1 x2) ∧ Cu g kb o c bs (rj t).2 w' ∧ W.grownBy w' (some g)) := H4.out t
                    generalize (rj t).1 = ee at *
                    generalize (rj t).2 = t2 at *
                    obtain ⟨vss, ehs, hvn, how, hev⟩ := MI.out
                    have EHS : Hid (vss.length = k) := ehs
                    have HVN : Hid (∀ v ∈ vss, v.length = 7) := hvn
                    have OW : Hid (wr.ownsRow w4.heap.size 55 7 v k vss.flatten) := how
                    have EV : Hid _ := hev
                    clear ehs hvn how hev MI
                    have RN : Hid (r + 1 < w4.heap.size ∧ g < w4.heap.size ∧ kb < w4.heap.size ∧ r + 1 ≠ g ∧ r + 1 ≠ kb) := ⟨by have := SB.out; omega, RB.out.lt, RB.out.kl, NG.out.2, NK.out.2⟩
                    go_upto_region 17 with fail
                    refine wp_region_J 7 (fun V => V.heap[r + 1]? = some (.cells #[.string v1, (.slice y2 (rdKL rc N2.toNat s2).length k2), (.slice y3 (rdKL rf N3.toNat s3).length k3), v] 28 (0, 0))) (by kernel_rfl) YI.out (fun hHeld => ?_)
                    refine wpAnyJ_take (i := 0) (v := .pointer (some ⟨r + 1, 3, none⟩)) rfl (by kernel_rfl) (by kernel_rfl) (by kernel_rfl) (by kernel_rfl) (fun _ _ _ h => h) (Or.inl ⟨by rfl, fun V hV => ?_⟩) hHeld ?_
                    · go_simp
                    simp only [Act.put, List.setIfInBounds_toArray, List.getElem_toArray, List.getElem_cons_zero, List.getElem_cons_succ, List.set_cons_zero, List.set_cons_succ]
                    refine wpAnyJ_take (i := 1) (v := v) rfl (by kernel_rfl) (by kernel_rfl) (by kernel_rfl) (by kernel_rfl) (fun _ _ _ h => h) (Or.inl ⟨by rfl, fun V hV => ?_⟩) hHeld ?_
                    · have cc : V.cell? ⟨r + 1, 3, none⟩ = some v := by simp [World.cell?, show V.heap[r + 1]? = _ from hV]
                      go_simp
                    simp only [Act.put, List.setIfInBounds_toArray, List.getElem_toArray, List.getElem_cons_zero, List.getElem_cons_succ, List.set_cons_zero, List.set_cons_succ]
                    refine wpAnyJ_take (i := 2) (v := .pointer (some ⟨g, 0, none⟩)) rfl (by kernel_rfl) (by kernel_rfl) (by kernel_rfl) (by kernel_rfl) (fun _ _ _ h => h) (Or.inl ⟨by rfl, fun V hV => ?_⟩) hHeld ?_
                    · go_simp
                    simp only [Act.put, List.setIfInBounds_toArray, List.getElem_toArray, List.getElem_cons_zero, List.getElem_cons_succ, List.set_cons_zero, List.set_cons_succ]
                    refine wpAnyJ_one (i := 3) (by kernel_rfl) rfl (fun K hK => ?_)
                    go_simp
                    refine (HC.out _ RI.out.drew).mono ?_
                    rintro e w5 ⟨⟨z1, d1, z2, d2, he, fq⟩, h5, g5⟩
                    subst he
                    have Y5 : w5.heap[r + 1]? = some (.cells #[.string v1, (.slice y2 (rdKL rc N2.toNat s2).length k2), (.slice y3 (rdKL rf N3.toNat s3).length k3), v] 28 (0, 0)) := (g5.block (r + 1) (blk_in' YI.out) (by have := RN.out.2.2.2.1; intro q; exact this (Option.some.inj q))).trans YI.out
                    have R5 : Hid (Cu g kb o c bs t2 w5) := h5
                    have G5 : Hid (wr.grownBy w5 (some g)) := ⟨g5.os, g5.tape, g5.output, g5.size, g5.block⟩
                    have F5 : Hid (JbQ (Fresh wr.heap.size w5.heap.size) w5 ee z1 z2) := fq
                    clear fq
                    clear h5 g5
                    refine hK.out _ _ (fun _ => Y5) ?_
                    clear hK K
                    try simp only [Act.put, List.setIfInBounds_toArray, List.getElem_toArray, List.getElem_cons_zero, List.getElem_cons_succ, List.set_cons_zero, List.set_cons_succ]
                    refine wpAnyJ_one (i := 4) (by kernel_rfl) rfl (fun K hK => ?_)
                    go_simp
                    have Y6 : Hid (∀ X : Obj, (w5.alloc X).heap[r + 1]? = some (.cells #[.string v1, (.slice y2 (rdKL rc N2.toNat s2).length k2), (.slice y3 (rdKL rf N3.toNat s3).length k3), v] 28 (0, 0))) := fun X => ((gb_alloc w5 X none).block (r + 1) (blk_in' Y5) (by simp)).trans Y5
                    refine hK.out _ _ (fun _ => Y6.out _) ?_
                    clear hK K hHeld
                    try simp only [Act.put, List.setIfInBounds_toArray, List.getElem_toArray, List.getElem_cons_zero, List.getElem_cons_succ, List.set_cons_zero, List.set_cons_succ]
                    refine wpAnyJ_one (i := 5) (by kernel_rfl) rfl (fun K hK => ?_)
                    rw [if_pos (by rfl)]
                    have OW5 : Hid (∀ X : Obj, (w5.alloc X).ownsRow w4.heap.size 55 7 v k vss.flatten) := fun X => (OW.out.kept G5.out (ob_ne OW.out.lt RN.out.2.1)).alloc X
                    have NW : Hid (∀ j u, (jbC ee (.slice z1 ee.cs.length d1) (.slice z2 ee.bs.length d2))[j]? = some u → (w5.alloc (.cells (jbC ee (.slice z1 ee.cs.length d1) (.slice z2 ee.bs.length d2)).toArray 55)).cell? ((⟨w5.heap.size, 0, none⟩ : Addr).add j) = some u) := fun j u h => mk_cells w5 _ _ j u h
                    have BZ : Hid (∀ X : Obj, w4.heap.size ≤ (w5.alloc X).heap.size) := fun X => by have := GI.out.size; have := G5.out.size; simp; omega
                    obtain ⟨i, z, hi, hz, hs', hy, hzc⟩ := infRlJ
                    refine wp_app_at _ _ 26 rfl w4.heap.size 55 i z 7 96 Tryz.underlying26 hi hz hs' hy hzc (by decide) v k vss.flatten rfl (OW5.out _) ⟨w5.heap.size, 0, none⟩ 1 1 (jbC ee (.slice z1 ee.cs.length d1) (.slice z2 ee.bs.length d2)) rfl rfl NW.out (by intro u hu; simp at hu; rcases hu with h | h | h | h | h | h | h <;> subst h <;> rfl) (by have := LE.out; simp [maxLen]; omega) (by have := LE.out; omega) (BZ.out _) ?_
                    intro v' wz q1 q2 q3 q4
                    obtain ⟨vx, vc, rfl⟩ := own_form q1
                    have Q1 : Hid _ := q1
                    have Q2 : Hid ((w5.alloc (.cells (jbC ee (.slice z1 ee.cs.length d1) (.slice z2 ee.bs.length d2)).toArray 55)).grownBy wz v.ownBlock) := q2
                    have Q4 : Hid _ := q4
                    clear q1 q2 q3 q4 hi hz hs' hy hzc
                    have hob : ∀ i, v.ownBlock = some i → w4.heap.size ≤ i := fun i hi => (OW.out.lt i hi).1
                    have Y7 : wz.heap[r + 1]? = some (.cells #[.string v1, (.slice y2 (rdKL rc N2.toNat s2).length k2), (.slice y3 (rdKL rf N3.toNat s3).length k3), v] 28 (0, 0)) := (Q2.out.block (r + 1) (blk_in' (Y6.out _)) (fun e => by have := hob _ e.symm; have := RN.out.1; omega)).trans (Y6.out _)
                    refine hK.out _ _ (fun _ => Y7) ?_
                    clear hK K
                    try simp only [Act.put, List.setIfInBounds_toArray, List.getElem_toArray, List.getElem_cons_zero, List.getElem_cons_succ, List.set_cons_zero, List.set_cons_succ]
                    refine wpAnyJ_one (i := 6) (by kernel_rfl) rfl (fun K hK => ?_)
                    go_simp
                    refine hK.out _ _ (fun _ => Y7) ?_
                    clear hK K
                    try simp only [Act.put, List.setIfInBounds_toArray, List.getElem_toArray, List.getElem_cons_zero, List.getElem_cons_succ, List.set_cons_zero, List.set_cons_succ]
                    have cc : wz.cell? ⟨r + 1, 3, none⟩ = some v := by simp [World.cell?, Y7]
                    have cz : wz.frozen? ⟨r + 1, 3, none⟩ = false := by simp [World.frozen?, Y7]
                    refine wpAnyJ_one (i := 7) (by kernel_rfl) rfl (fun K hK => ?_)
                    go_simp
                    refine hK.out _ _ (fun h => nomatch (show true = false from h)) ?_
                    clear hK K cc cz
                    refine wpAnyJ_done (by kernel_rfl) ?_ _
                    obtain ⟨wy, e8⟩ : ∃ wy, wy = wz.setCell ⟨r + 1, 3, none⟩ (.slice vx (k + 1) vc) := ⟨_, rfl⟩
                    rw [← e8]
                    have B5 : wr.grownBy (w5.alloc (.cells (jbC ee (.slice z1 ee.cs.length d1) (.slice z2 ee.bs.length d2)).toArray 55)) (some g) := gb_trans G5.out (gb_alloc _ _ _)
                    have Y8 : Hid (wy.heap[r + 1]? = some (.cells #[.string v1, (.slice y2 (rdKL rc N2.toNat s2).length k2), (.slice y3 (rdKL rf N3.toNat s3).length k3), (.slice vx (k + 1) vc)] 28 (0, 0))) := by rw [e8]; show _ = _; simp [World.setCell, Array.getElem?_modify, Y7]
                    have M8 : Hid (MkI 55 7 JbP w4.heap.size (rdKL rj N4.toNat s4) (k + 1) (.slice vx (k + 1) vc) wy) := by rw [e8]; exact MkI.setc keptJ (MkI.stepG keptJ RN.out.2.1 EHS.out HVN.out EV.out OW.out.lt _ _ GE.out rfl GI.out.size B5 ⟨z1, d1, z2, d2, rfl, (F5.out.fr (fun q hq => World.cell?_of_block ((gb_alloc _ _ none).block _ hq.2 (by simp)))).sub (up_sub' (Nat.le_refl _) (gb_alloc _ _ none).size)⟩ Q2.out Q1.out Q4.out) RN.out.1
                    have R8 : Hid (Cu g kb o c bs t2 wy) := by
                      rw [e8]
                      exact ((R5.out.al _).grown Q2.out (fun q => by have := hob _ q; have := RN.out.2.1; omega) (fun q => by have := hob _ q; have := RN.out.2.2.1; omega)).setr RN.out.2.2.2.1 RN.out.2.2.2.2 _ _
                    have G8 : Hid (Kp g (r + 1) w4 wy) := by rw [e8]; exact (Kp.own Q2.out hob (GI.out.trans (Kp.of B5))).set _ _
                    clear e8 Y7 B5 hob Q1 Q2 Q4 OW EV EHS HVN G5 R5 Y6 Y5
                    have ew : wrap64 ((k : Int) + 1) = (k : Int) + 1 := by have := LE.out; unfold wrap64; omega
                    go_step
                    go_wp2
                    rw [ew]
                    refine ⟨⟨k + 1, t2, (.slice vx (k + 1) vc), rfl, NX.out, Y8.out, M8.out, R8.out, G8.out⟩, ?_⟩
                    have := LT.out
                    show N4.toNat - ((k : Int) + 1).toNat < N4.toNat - (k : Int).toNat
                    omega
                  · have hb : (decide ((k : Int) < N4) && decide (t.y = 0)) = false := by
                      by_cases q : (k : Int) < N4
                      · have : ¬ t.y = 0 := fun z => hgo ⟨q, z⟩
                        simp [this]
                      · simp [q]
                    rw [hb]
                    have F2 : Hid (∃ y c2, wr.heap[r + 1]? = some (.cells #[.string v1, (.slice y2 (rdKL rc N2.toNat s2).length k2), (.slice y3 (rdKL rf N3.toNat s3).length k3), (.slice y (rdKL rj N4.toNat s4).length c2)] 28 (0, 0)) ∧ RwF 7 (JbP (Fresh w4.heap.size wr.heap.size) wr) (Fresh w4.heap.size wr.heap.size) wr y (rdKL rj N4.toNat s4) ∧ Cu g kb o c bs (rdKS rj N4.toNat s4) wr ∧ Kp g (r + 1) w4 wr) := fin.out (by
                      have := LI.out.1
                      by_cases q : (k : Int) < N4
                      · exact Or.inr (fun z => hgo ⟨q, z⟩)
                      · exact Or.inl (by omega))
                    clear fin LI MI RI GI YI hb hgo c0 c1 c2 c3
                    obtain ⟨y4, k4, hY, hQ, hR, hKp⟩ := F2.out
                    clear F2
                    have YE : Hid (wr.heap[r + 1]? = some (.cells #[.string v1, (.slice y2 (rdKL rc N2.toNat s2).length k2), (.slice y3 (rdKL rf N3.toNat s3).length k3), (.slice y4 (rdKL rj N4.toNat s4).length k4)] 28 (0, 0))) := hY
                    have EE : Hid (Cu g kb o c bs (rdKS rj N4.toNat s4) wr) := hR
                    have XE : Hid (wr.heap[r]? = some (.cells #[.string ⟨#[]⟩, .slice none 0 0, .slice none 0 0, .slice none 0 0] 28 (0, 0))) := (hKp.block r (by have := SB.out; omega) NG.out.1 (by omega)).trans XB.out
                    have GE : Hid (w.grownBy wr (some g)) := Kp.gb GB.out hKp (Nat.le_succ_of_le RG.out)
                    have QE0 : Hid (RwF 11 ((fun S w => Is ceC) (Fresh (r + 2) wr.heap.size) wr) (Fresh (r + 2) wr.heap.size) wr y2 (rdKL rc N2.toNat s2)) := rw_kp (P := (fun S w => Is ceC)) (keptI _) QA.out hKp (by have := GR.out; omega) (by omega)
                    have QE1 : Hid (RwF 8 (FlP (Fresh (r + 2) wr.heap.size) wr) (Fresh (r + 2) wr.heap.size) wr y3 (rdKL rf N3.toNat s3)) := rw_kp keptF QB.out hKp (by have := GR.out; omega) (by omega)
                    have QE2 : Hid (RwF 7 (JbP (Fresh (r + 2) wr.heap.size) wr) (Fresh (r + 2) wr.heap.size) wr y4 (rdKL rj N4.toNat s4)) := RwF.subK keptJ (up_sub' SB.out (Nat.le_refl _)) hQ
                    obtain ⟨c0, c1, c2, c3⟩ := hR.at_.cs
                    clear hY hQ hR hKp RB YB XB GB SB QA QB
                    by_cases hp : (rdKS rj N4.toNat s4).p < bs.length
                    · have hp' : ((rdKS rj N4.toNat s4).p : Int) < bs.length := by omega
                      have FX : Hid (∀ V, Cu g kb o c bs (rdKS rj N4.toNat s4) V → Calls Tryz.prog 33 #[.pointer (some ⟨g, 0, none⟩), .int .i64 (rdKS rj N4.toNat s4).p, .int .i64 3] V fun e w' => e = .returned (.tuple #[]) ∧ Cu g kb o c bs (rdFail (rdKS rj N4.toNat s4) (rdKS rj N4.toNat s4).p 3) w' ∧ V.grownBy w' (some g)) := fun V hV => failC g kb o c bs _ _ _ V hV
                      have EQ : Hid (rdEnd bs (rdKS rj N4.toNat s4) = rdFail (rdKS rj N4.toNat s4) (rdKS rj N4.toNat s4).p 3) := by show _ = _; unfold rdEnd rdFail; rw [if_pos hp]
                      go_upto_region 18 with fail
                      go_quiet (fail)
                      obtain ⟨W, eW⟩ : ∃ W, W = wr.drewN nq := ⟨_, rfl⟩
                      rw [← eW]
                      have HW : Hid (Cu g kb o c bs (rdKS rj N4.toNat s4) W) := by rw [eW]; exact EE.out.drewN _
                      have YW : Hid (W.heap[r + 1]? = some (.cells #[.string v1, (.slice y2 (rdKL rc N2.toNat s2).length k2), (.slice y3 (rdKL rf N3.toNat s3).length k3), (.slice y4 (rdKL rj N4.toNat s4).length k4)] 28 (0, 0))) := by rw [eW]; exact YE.out
                      have XW : Hid (W.heap[r]? = some (.cells #[.string ⟨#[]⟩, .slice none 0 0, .slice none 0 0, .slice none 0 0] 28 (0, 0))) := by rw [eW]; exact XE.out
                      have GW : Hid (w.grownBy W (some g)) := by rw [eW]; exact gb_drewN GE.out _
                      have ZW : Hid (W.heap.size = wr.heap.size ∧ ∀ q, W.cell? q = wr.cell? q) := by rw [eW]; exact ⟨rfl, fun q => rfl⟩
                      clear eW c0 c1 c2 c3
                      obtain ⟨c0, c1, c2, c3⟩ := HW.out.at_.cs
                      go_wp2_with (go_at_call 33; refine (FX.out _ HW.out).mono ?_)
                      first | (rintro e w9 ⟨he, h1, g1⟩; have he' := he) | (rintro e w9 he h1 g1)
                      subst he
                      have RF : Hid (Cu g kb o c bs (rdFail (rdKS rj N4.toNat s4) (rdKS rj N4.toNat s4).p 3) w9) := h1
                      have YF : Hid (w9.heap[r + 1]? = some (.cells #[.string v1, (.slice y2 (rdKL rc N2.toNat s2).length k2), (.slice y3 (rdKL rf N3.toNat s3).length k3), (.slice y4 (rdKL rj N4.toNat s4).length k4)] 28 (0, 0))) := (g1.block (r + 1) (blk_in' YW.out) (by have := NG.out.2; intro q; exact this (Option.some.inj q))).trans YW.out
                      have XF : Hid (w9.heap[r]? = some (.cells #[.string ⟨#[]⟩, .slice none 0 0, .slice none 0 0, .slice none 0 0] 28 (0, 0))) := (g1.block r (blk_in' XW.out) (by have := NG.out.1; intro q; exact this (Option.some.inj q))).trans XW.out
                      have GF : Hid (w.grownBy w9 (some g)) := gb_trans GW.out g1
                      have QF0 : Hid (RwF 11 ((fun S w => Is ceC) (Fresh (r + 2) w9.heap.size) w9) (Fresh (r + 2) w9.heap.size) w9 y2 (rdKL rc N2.toNat s2)) := rw_keep (P := (fun S w => Is ceC)) (keptI _) (rw_dr (P := (fun S w => Is ceC)) (keptI _) QE0.out ZW.out.1 ZW.out.2) g1 (by have := GR.out; omega)
                      have QF1 : Hid (RwF 8 (FlP (Fresh (r + 2) w9.heap.size) w9) (Fresh (r + 2) w9.heap.size) w9 y3 (rdKL rf N3.toNat s3)) := rw_keep (P := FlP) keptF (rw_dr (P := FlP) keptF QE1.out ZW.out.1 ZW.out.2) g1 (by have := GR.out; omega)
                      have QF2 : Hid (RwF 7 (JbP (Fresh (r + 2) w9.heap.size) w9) (Fresh (r + 2) w9.heap.size) w9 y4 (rdKL rj N4.toNat s4)) := rw_keep (P := JbP) keptJ (rw_dr (P := JbP) keptJ QE2.out ZW.out.1 ZW.out.2) g1 (by have := GR.out; omega)
                      clear h1 g1 c0 c1 c2 c3
                      go_upto_region 20 with fail
                      rename_i hKK
                      refine wp_region_list ?_
                      refine wpList_load_row (by rfl) 28 (.tmp 3) (by rfl) (r + 1) (by rfl) 28 #[.string v1, .slice y2 (rdKL rc N2.toNat s2).length k2, .slice y3 (rdKL rf N3.toNat s3).length k3, .slice y4 (rdKL rj N4.toNat s4).length k4] (0, 0) _ YF.out Tryz.underlying28 rfl (show (Tryz.prog.info? 28).map (·.size) = some 4 by kernel_rfl) ?_
                      refine wpList_store_row (by rfl) 28 (.tmp 2) (.tmp 90) (by rfl) r #[.string v1, .slice y2 (rdKL rc N2.toNat s2).length k2, .slice y3 (rdKL rf N3.toNat s3).length k3, .slice y4 (rdKL rj N4.toNat s4).length k4] (by rfl) (by rfl) 28 _ XF.out (show (Tryz.prog.info? 28).map (·.size) = some 4 by kernel_rfl) (by rfl) (by kernel_rfl) ?_
                      refine hKK _ _ (wp_ret ?_)
                      have hz := setRow_heap w9 r _ #[.string v1, .slice y2 (rdKL rc N2.toNat s2).length k2, .slice y3 (rdKL rf N3.toNat s3).length k3, .slice y4 (rdKL rj N4.toNat s4).length k4] _ _ XF.out
                      refine bodyPost_ret (v := .agg #[.string v1, .slice y2 (rdKL rc N2.toNat s2).length k2, .slice y3 (rdKL rf N3.toNat s3).length k3, .slice y4 (rdKL rj N4.toNat s4).length k4]) (results_cell_row Tryz.results14 _ _ r _ _ (0, 0) _ (by first | rfl | simp [Act.put]) hz Tryz.underlying28 rfl (show (Tryz.prog.info? 28).map (·.size) = some 4 by kernel_rfl)) rfl ?_
                      first | exact ⟨⟨y2, k2, y3, k3, y4, k4, rfl, rw_row' (P := (fun S w => Is ceC)) (keptI _) QF0.out RG.out, rw_row' (P := FlP) keptF QF1.out RG.out, rw_row' (P := JbP) keptJ QF2.out RG.out⟩, by rw [EQ.out]; exact RF.out.row NG.out.1 NK.out.1 _, gb_row GF.out RG.out _⟩ | exact ⟨⟨y2, k2, y3, k3, y4, ⟨k4, rfl⟩, rw_row' (P := (fun S w => Is ceC)) (keptI _) QF0.out RG.out, rw_row' (P := FlP) keptF QF1.out RG.out, rw_row' (P := JbP) keptJ QF2.out RG.out⟩, by rw [EQ.out]; exact RF.out.row NG.out.1 NK.out.1 _, gb_row GF.out RG.out _⟩
                    · have hp' : ¬ ((rdKS rj N4.toNat s4).p : Int) < bs.length := by omega
                      have EQ : Hid (rdEnd bs (rdKS rj N4.toNat s4) = rdKS rj N4.toNat s4) := by show _ = _; unfold rdEnd; rw [if_neg hp]
                      go_upto_region 18 with fail
                      go_quiet (fail)
                      obtain ⟨W, eW⟩ : ∃ W, W = wr.drewN nq := ⟨_, rfl⟩
                      rw [← eW]
                      have RF : Hid (Cu g kb o c bs (rdKS rj N4.toNat s4) W) := by rw [eW]; exact EE.out.drewN _
                      have YF : Hid (W.heap[r + 1]? = some (.cells #[.string v1, (.slice y2 (rdKL rc N2.toNat s2).length k2), (.slice y3 (rdKL rf N3.toNat s3).length k3), (.slice y4 (rdKL rj N4.toNat s4).length k4)] 28 (0, 0))) := by rw [eW]; exact YE.out
                      have XF : Hid (W.heap[r]? = some (.cells #[.string ⟨#[]⟩, .slice none 0 0, .slice none 0 0, .slice none 0 0] 28 (0, 0))) := by rw [eW]; exact XE.out
                      have GF : Hid (w.grownBy W (some g)) := by rw [eW]; exact gb_drewN GE.out _
                      have ZW : Hid (W.heap.size = wr.heap.size ∧ ∀ q, W.cell? q = wr.cell? q) := by rw [eW]; exact ⟨rfl, fun q => rfl⟩
                      have QF0 : Hid (RwF 11 ((fun S w => Is ceC) (Fresh (r + 2) W.heap.size) W) (Fresh (r + 2) W.heap.size) W y2 (rdKL rc N2.toNat s2)) := rw_dr (P := (fun S w => Is ceC)) (keptI _) QE0.out ZW.out.1 ZW.out.2
                      have QF1 : Hid (RwF 8 (FlP (Fresh (r + 2) W.heap.size) W) (Fresh (r + 2) W.heap.size) W y3 (rdKL rf N3.toNat s3)) := rw_dr (P := FlP) keptF QE1.out ZW.out.1 ZW.out.2
                      have QF2 : Hid (RwF 7 (JbP (Fresh (r + 2) W.heap.size) W) (Fresh (r + 2) W.heap.size) W y4 (rdKL rj N4.toNat s4)) := rw_dr (P := JbP) keptJ QE2.out ZW.out.1 ZW.out.2
                      clear eW c0 c1 c2 c3
                      go_upto_region 20 with fail
                      rename_i hKK
                      refine wp_region_list ?_
                      refine wpList_load_row (by rfl) 28 (.tmp 3) (by rfl) (r + 1) (by rfl) 28 #[.string v1, .slice y2 (rdKL rc N2.toNat s2).length k2, .slice y3 (rdKL rf N3.toNat s3).length k3, .slice y4 (rdKL rj N4.toNat s4).length k4] (0, 0) _ YF.out Tryz.underlying28 rfl (show (Tryz.prog.info? 28).map (·.size) = some 4 by kernel_rfl) ?_
                      refine wpList_store_row (by rfl) 28 (.tmp 2) (.tmp 90) (by rfl) r #[.string v1, .slice y2 (rdKL rc N2.toNat s2).length k2, .slice y3 (rdKL rf N3.toNat s3).length k3, .slice y4 (rdKL rj N4.toNat s4).length k4] (by rfl) (by rfl) 28 _ XF.out (show (Tryz.prog.info? 28).map (·.size) = some 4 by kernel_rfl) (by rfl) (by kernel_rfl) ?_
                      refine hKK _ _ (wp_ret ?_)
                      have hz := setRow_heap W r _ #[.string v1, .slice y2 (rdKL rc N2.toNat s2).length k2, .slice y3 (rdKL rf N3.toNat s3).length k3, .slice y4 (rdKL rj N4.toNat s4).length k4] _ _ XF.out
                      refine bodyPost_ret (v := .agg #[.string v1, .slice y2 (rdKL rc N2.toNat s2).length k2, .slice y3 (rdKL rf N3.toNat s3).length k3, .slice y4 (rdKL rj N4.toNat s4).length k4]) (results_cell_row Tryz.results14 _ _ r _ _ (0, 0) _ (by first | rfl | simp [Act.put]) hz Tryz.underlying28 rfl (show (Tryz.prog.info? 28).map (·.size) = some 4 by kernel_rfl)) rfl ?_
                      first | exact ⟨⟨y2, k2, y3, k3, y4, k4, rfl, rw_row' (P := (fun S w => Is ceC)) (keptI _) QF0.out RG.out, rw_row' (P := FlP) keptF QF1.out RG.out, rw_row' (P := JbP) keptJ QF2.out RG.out⟩, by rw [EQ.out]; exact RF.out.row NG.out.1 NK.out.1 _, gb_row GF.out RG.out _⟩ | exact ⟨⟨y2, k2, y3, k3, y4, ⟨k4, rfl⟩, rw_row' (P := (fun S w => Is ceC)) (keptI _) QF0.out RG.out, rw_row' (P := FlP) keptF QF1.out RG.out, rw_row' (P := JbP) keptJ QF2.out RG.out⟩, by rw [EQ.out]; exact RF.out.row NG.out.1 NK.out.1 _, gb_row GF.out RG.out _⟩
end Go.Proofs.YtahgnmbkobiclaaGreat
