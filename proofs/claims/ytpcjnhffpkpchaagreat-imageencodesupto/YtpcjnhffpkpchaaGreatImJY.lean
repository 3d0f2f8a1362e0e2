/- An image copied; no statement of the seat is proved here. -/
import Derived.Test.YtpcjnhffpkpchaaGreatYa3
namespace Go.Proofs.YtpcjnhffpkpchaaGreat
set_option linter.unusedVariables false
open Go.RowKit
theorem im_info : (Tryz.prog.info? 26).map (·.size) = some 4 := by kernel_rfl
theorem infoJi : ∃ i z, Tryz.prog.info? 46 = some i ∧ i.zero = some z ∧ i.size = 7 ∧ i.bytes = 96 ∧ z.cells.size = 7 := by
  obtain ⟨i, hi, hz⟩ := Option.map_eq_some_iff.1 (show (Tryz.prog.info? 46).map (fun i => (i.zero.map (·.cells.size), i.size, i.bytes)) = some (some 7, 7, 96) by kernel_rfl)
  simp only [Prod.mk.injEq] at hz
  obtain ⟨z, h1, h2⟩ := Option.map_eq_some_iff.1 hz.1
  exact ⟨i, z, hi, h1, hz.2.1, hz.2.2, h2⟩
set_option maxRecDepth 20000 in
set_option maxHeartbeats 8000000 in
theorem Image_of (m : ImR) (x1 x2 x3 : Option Addr) (p1 p2 p3 : Nat) (w : World) {S : Nat → Prop} (hS : ∀ b, S b → b < w.heap.size) (ha : ImQ S w m x1 x2 x3) :
    Calls Tryz.prog 4 #[.agg #[.string m.nm, .slice x1 m.cs.length p1, .slice x2 m.fs.length p2, .slice x3 m.js.length p3]] w fun e w' => (∃ y1 c1 y2 c2 y3 c3, e = .returned (.agg #[.string m.nm, .slice y1 m.cs.length c1, .slice y2 m.fs.length c2, .slice y3 m.js.length c3]) ∧ ImQ (Fresh w.heap.size w'.heap.size) w' m y1 y2 y3) ∧ Below w.heap.size w w' := by
  have Q0 : Hid (∀ W, Below w.heap.size w W → Calls Tryz.prog 10 #[.slice x1 m.cs.length p1] W fun e w' => (∃ y c, e = .returned (.slice y m.cs.length c) ∧ RwF 11 (Is ceC) (Fresh W.heap.size w'.heap.size) w' y m.cs) ∧ Below W.heap.size W w') := fun W hb => CloneC x1 m.cs p1 W (fun b h => Nat.lt_of_lt_of_le (hS b h) hb.size) (ha.1.fr (fun q hq => hb.cell (hS _ hq)))
  have Q2 : Hid (∀ W, Below w.heap.size w W → Calls Tryz.prog 11 #[.slice x2 m.fs.length p2] W fun e w' => (∃ y c, e = .returned (.slice y m.fs.length c) ∧ RwF 8 (FlP (Fresh W.heap.size w'.heap.size) w') (Fresh W.heap.size w'.heap.size) w' y m.fs) ∧ Below W.heap.size W w') := fun W hb => Flats_of x2 m.fs p2 W (fun b h => Nat.lt_of_lt_of_le (hS b h) hb.size) (ha.2.1.frK keptF (fun q hq => hb.cell (hS _ hq)))
  have HJ : Hid (∀ W, Below w.heap.size w W → RwF 7 (JbP S W) S W x3 m.js) := fun W hb => ha.2.2.frK keptJ (fun q hq => hb.cell (hS _ hq))
  have HS : Hid (∀ b, S b → b < w.heap.size) := hS
  clear ha hS
  go_enter Tryz.func4, Tryz.ntmps4
  go_upto_region 1 with fail
  obtain ⟨AW, eW⟩ : ∃ AW, AW = (w.alloc (.cells #[.string m.nm, .slice x1 m.cs.length p1, .slice x2 m.fs.length p2, .slice x3 m.js.length p3] 26 (0, 0))).alloc (.cells #[.string ⟨#[]⟩, .slice none 0 0, .slice none 0 0, .slice none 0 0] 26 (0, 0)) := ⟨_, rfl⟩
  have AX : Hid (AW.heap[w.heap.size]? = some (.cells #[.string m.nm, .slice x1 m.cs.length p1, .slice x2 m.fs.length p2, .slice x3 m.js.length p3] 26 (0, 0))) := by rw [eW]; exact (two_al w _ _).1
  have AY : Hid (AW.heap[w.heap.size + 1]? = some (.cells #[.string ⟨#[]⟩, .slice none 0 0, .slice none 0 0, .slice none 0 0] 26 (0, 0))) := by rw [eW]; exact (two_al w _ _).2
  have AB : Hid (Below w.heap.size w AW) := by rw [eW]; exact ((Below.refl _ _).alloc (Nat.le_refl _) _).alloc (by simp) _
  have AS : AW.heap.size = w.heap.size + 2 := by rw [eW]; simp
  rw [← eW]
  clear eW
  generalize hG : w.heap.size = G at AX AY AB AS Q0 Q2 HJ HS ⊢
  have HG : Hid (w.heap.size = G) := hG
  clear hG
  go_cut [] (fun wx => ∃ y0 c0 y2 c2, wx.heap[G]? = some (.cells #[.string m.nm, (.slice y0 m.cs.length c0), (.slice y2 m.fs.length c2), .slice x3 m.js.length p3] 26 (0, 0)) ∧ RwF 11 (Is ceC) (Fresh (G + 2) wx.heap.size) wx y0 m.cs ∧ RwF 8 (FlP (Fresh (G + 2) wx.heap.size) wx) (Fresh (G + 2) wx.heap.size) wx y2 m.fs ∧ Below G w wx ∧ G + 2 ≤ wx.heap.size ∧ wx.heap[G + 1]? = some (.cells #[.string ⟨#[]⟩, .slice none 0 0, .slice none 0 0, .slice none 0 0] 26 (0, 0)))
  case first =>
    refine wp_region_J 7 (fun W => W.heap[G]? = some (.cells #[.string m.nm, .slice x1 m.cs.length p1, .slice x2 m.fs.length p2, .slice x3 m.js.length p3] 26 (0, 0))) (by kernel_rfl) AX.out (fun hHeld => ?_)
    refine wpAnyJ_take (i := 0) (v := .pointer (some ⟨G, 1, none⟩)) rfl (by kernel_rfl) (by kernel_rfl) (by kernel_rfl) (by kernel_rfl) (fun _ _ _ h => h) (Or.inl ⟨by rfl, fun W hW => ?_⟩) hHeld ?_
    · go_simp
    simp only [Act.put, List.setIfInBounds_toArray]
    refine wpAnyJ_take (i := 1) (v := .slice x1 m.cs.length p1) rfl (by kernel_rfl) (by kernel_rfl) (by kernel_rfl) (by kernel_rfl) (fun _ _ _ h => h) (Or.inl ⟨by rfl, fun W hW => ?_⟩) hHeld ?_
    · have cc : W.cell? ⟨G, 1, none⟩ = some (.slice x1 m.cs.length p1) := by simp [World.cell?, show W.heap[G]? = _ from hW]
      go_simp
    simp only [Act.put]
    refine wpAnyJ_take (i := 3) (v := .pointer (some ⟨G, 2, none⟩)) rfl (by kernel_rfl) (by kernel_rfl) (by kernel_rfl) (by kernel_rfl) (fun _ _ _ h => h) (Or.inl ⟨by rfl, fun W hW => ?_⟩) hHeld ?_
    · go_simp
    simp only [Act.put]
    refine wpAnyJ_take (i := 4) (v := .slice x2 m.fs.length p2) rfl (by kernel_rfl) (by kernel_rfl) (by kernel_rfl) (by kernel_rfl) (fun _ _ _ h => h) (Or.inl ⟨by rfl, fun W hW => ?_⟩) hHeld ?_
    · have cc : W.cell? ⟨G, 2, none⟩ = some (.slice x2 m.fs.length p2) := by simp [World.cell?, show W.heap[G]? = _ from hW]
      go_simp
    simp only [Act.put]
    refine wpAnyJ_one (i := 2) (by kernel_rfl) rfl (fun K hK => ?_)
    go_simp
    refine (Q0.out _ AB.out.drew).mono ?_
    rintro r w0 ⟨⟨y0, c0, rfl, hk0⟩, hb0⟩
    have X0 : w0.heap[G]? = some (.cells #[.string m.nm, .slice x1 m.cs.length p1, .slice x2 m.fs.length p2, .slice x3 m.js.length p3] 26 (0, 0)) := (hb0.block _ (by show G < AW.heap.size; omega)).trans AX.out
    have B0 : Below G w w0 := (AB.out.drew).trans (hb0.mono (by show G ≤ AW.heap.size; omega))
    have s0 := hb0.size
    change AW.heap.size ≤ _ at s0
    refine hK.out _ _ (fun _ => X0) ?_
    clear hK K
    refine wpAnyJ_take (i := 6) (v := .pointer (some ⟨G, 1, none⟩)) rfl (by kernel_rfl) (by kernel_rfl) (by kernel_rfl) (by kernel_rfl) (fun _ _ _ h => h) (Or.inl ⟨by rfl, fun W hW => ?_⟩) X0 ?_
    · go_simp
    simp only [Act.put]
    refine wpAnyJ_one (i := 5) (by kernel_rfl) rfl (fun K hK => ?_)
    go_simp
    refine (Q2.out _ B0).mono ?_
    rintro r w2 ⟨⟨y2, c2, rfl, hk2⟩, hb2⟩
    have X2 : w2.heap[G]? = some (.cells #[.string m.nm, .slice x1 m.cs.length p1, .slice x2 m.fs.length p2, .slice x3 m.js.length p3] 26 (0, 0)) := (hb2.block _ (by omega)).trans X0
    have B2 : Below G w w2 := (B0).trans (hb2.mono (by omega))
    have s2 := hb2.size
    refine hK.out _ _ (fun _ => X2) ?_
    clear hK K
    have k0 : w2.cell? ⟨G, 1, none⟩ = some (.slice x1 m.cs.length p1) := by simp [World.cell?, X2]
    have f0 : w2.frozen? ⟨G, 1, none⟩ = false := by simp [World.frozen?, X2]
    refine wpAnyJ_one (i := 7) (by kernel_rfl) rfl (fun K hK => ?_)
    go_simp
    refine hK.out _ _ (fun h => nomatch (show true = false from h)) ?_
    clear hK K
    have Z0 : (w2.setCell ⟨G, 1, none⟩ (.slice y0 m.cs.length c0)).heap[G]? = some (.cells #[.string m.nm, (.slice y0 m.cs.length c0), .slice x2 m.fs.length p2, .slice x3 m.js.length p3] 26 (0, 0)) := by simp [World.setCell, Array.getElem?_modify, X2]
    obtain ⟨v0, ev0⟩ : ∃ v, v = w2.setCell ⟨G, 1, none⟩ (.slice y0 m.cs.length c0) := ⟨_, rfl⟩
    rw [← ev0] at Z0 ⊢
    have D0 : Below G w v0 := by rw [ev0]; exact B2.setCell (Nat.le_refl _) _
    have T0 : v0.heap.size = w2.heap.size := by rw [ev0]; simp
    have U0 : ∀ k, G + 1 ≤ k → v0.heap[k]? = w2.heap[k]? := fun k hk => by rw [ev0]; exact Below.heap_setCell _ _ _ _ (by show k ≠ G; omega)
    clear ev0
    have k2 : v0.cell? ⟨G, 2, none⟩ = some (.slice x2 m.fs.length p2) := by simp [World.cell?, Z0]
    have f2 : v0.frozen? ⟨G, 2, none⟩ = false := by simp [World.frozen?, Z0]
    refine wpAnyJ_one (i := 8) (by kernel_rfl) rfl (fun K hK => ?_)
    go_simp
    refine hK.out _ _ (fun h => nomatch (show true = false from h)) ?_
    clear hK K
    refine wpAnyJ_one (i := 9) (by kernel_rfl) rfl (fun K hK => ?_)
    go_simp
    refine hK.out _ _ (fun h => nomatch (show true = false from h)) ?_
    clear hK K
    have Z2 : (v0.setCell ⟨G, 2, none⟩ (.slice y2 m.fs.length c2)).heap[G]? = some (.cells #[.string m.nm, (.slice y0 m.cs.length c0), (.slice y2 m.fs.length c2), .slice x3 m.js.length p3] 26 (0, 0)) := by simp [World.setCell, Array.getElem?_modify, Z0]
    obtain ⟨v2, ev2⟩ : ∃ v, v = v0.setCell ⟨G, 2, none⟩ (.slice y2 m.fs.length c2) := ⟨_, rfl⟩
    rw [← ev2] at Z2 ⊢
    have D2 : Below G w v2 := by rw [ev2]; exact D0.setCell (Nat.le_refl _) _
    have T2 : v2.heap.size = v0.heap.size := by rw [ev2]; simp
    have U2 : ∀ k, G + 1 ≤ k → v2.heap[k]? = v0.heap[k]? := fun k hk => by rw [ev2]; exact Below.heap_setCell _ _ _ _ (by show k ≠ G; omega)
    clear ev2
    refine wpAnyJ_done (by kernel_rfl) ?_ _
    refine Met.intro ?_
    go_step
    go_meet
    case rel =>
      have EE0 : ∀ k, G + 1 ≤ k → k < w0.heap.size → v2.heap[k]? = w0.heap[k]? := fun k p q => ((U2 k p).trans (U0 k p)).trans (hb2.block k (by omega))
      have EE2 : ∀ k, G + 1 ≤ k → k < w2.heap.size → v2.heap[k]? = w2.heap[k]? := fun k p q => (U2 k p).trans (U0 k p)
      exact ⟨y0, c0, y2, c2, Z2, (hk0.fr (up_fr EE0 (by show G + 1 ≤ AW.heap.size; omega))).sub (up_sub (by show G + 2 ≤ AW.heap.size; omega) (by omega)), (hk2.frK keptF (up_fr EE2 (by omega))).subK keptF (up_sub (by omega) (by omega)), D2, by omega, (U2 (G + 1) (by omega)).trans ((U0 (G + 1) (by omega)).trans ((hb2.block (G + 1) (by omega)).trans ((hb0.block (G + 1) (by show G + 1 < AW.heap.size; omega)).trans AY.out)))⟩
  case rest =>
    obtain ⟨y0, c0, y2, c2, bx, k0, k2, hb, hs, by1⟩ := hcut
    clear AX AY AB AS Q0 Q2
    have K0 : Hid (RwF 11 (Is ceC) (Fresh (G + 2) wc.heap.size) wc y0 m.cs) := k0
    have K2 : Hid (RwF 8 (FlP (Fresh (G + 2) wc.heap.size) wc) (Fresh (G + 2) wc.heap.size) wc y2 m.fs) := k2
    have BB : Hid (Below G w wc) := hb
    have BX : Hid (wc.heap[G]? = some (.cells #[.string m.nm, .slice y0 m.cs.length c0, .slice y2 m.fs.length c2, .slice x3 m.js.length p3] 26 (0, 0))) := bx
    have BY : Hid (wc.heap[G + 1]? = some (.cells #[.string ⟨#[]⟩, .slice none 0 0, .slice none 0 0, .slice none 0 0] 26 (0, 0))) := by1
    have b3 : wc.cell? ⟨G, 3, none⟩ = some (.slice x3 m.js.length p3) := by simp [World.cell?, bx]
    have LJ : Hid _ := (HJ.out _ BB.out).1
    clear bx hb k0 k2 by1
    obtain ⟨WC, eC⟩ : ∃ WC, WC = wc := ⟨_, rfl⟩
    rw [← eC] at b3 K0 K2 BB BX BY hs ⊢
    clear eC
    have JR : Hid (RwF 7 (JbP S WC) S WC x3 m.js) := HJ.out _ BB.out
    have SW : Hid (∀ b, S b → b < WC.heap.size) := fun b h => by have := HS.out b h; omega
    clear HJ
    go_wp2_with fail
    go_loopw [3, 17] (fun out i wr => ∃ k : Nat, k ≤ m.js.length ∧ i = .int .i64 k ∧ Below WC.heap.size WC wr ∧ MkI 46 7 JbP WC.heap.size m.js k out wr) (fun _ i _ => m.js.length - (intOf i).toNat)
    case atStart => exact ⟨0, Nat.zero_le _, rfl, Below.refl _ _, MkI.zero _ _ _ _ _ _⟩
    case round =>
      obtain ⟨k, hk, rfl, hbw, hcp⟩ := hrel
      have HW : Hid (Below WC.heap.size WC wr) := hbw
      by_cases hlt : k < m.js.length
      · obtain ⟨vss, ehs, hvn, how, hev⟩ := hcp
        have EHS : Hid _ := ehs
        have HVN : Hid _ := hvn
        have OW : Hid (wr.ownsRow WC.heap.size 46 7 u3 k vss.flatten) := how
        have EV' : Hid _ := hev
        clear ehs how hev hvn
        obtain ⟨a, rfl⟩ := JR.out.some (by omega)
        obtain ⟨s, sv, se, _, ⟨sx, sc, sy, sd, rfl, sq⟩, sk⟩ := (JR.out.frK keptJ (w' := wr) (fun q hq => hbw.cell (SW.out _ hq))).el k hlt
        have e0 := sk.c0
        have e1 := sk.cp 0 _ rfl
        have e2 := sk.cp 1 _ rfl
        have e3 := sk.cp 2 _ rfl
        have e4 := sk.cp 3 _ rfl
        have e5 := sk.cp 4 _ rfl
        have e6 := sk.cp 5 _ rfl
        have ES : Hid (m.js[k]? = some s) := se
        have LT : Hid _ := hlt
        have kl : (k : Int) < m.js.length := by omega
        have QC : Hid (∀ W, Below wr.heap.size wr W → Calls Tryz.prog 12 #[.slice sx s.cs.length sc] W fun e w' => (∃ y c, e = .returned (.slice y s.cs.length c) ∧ RwF 1 (Is inC) (Fresh W.heap.size w'.heap.size) w' y s.cs) ∧ Below W.heap.size W w') := fun W hb => CloneN sx s.cs sc W (fun b h => Nat.lt_of_lt_of_le (Nat.lt_of_lt_of_le (SW.out b h) HW.out.size) hb.size) (sq.1.fr (fun q hq => hb.cell (Nat.lt_of_lt_of_le (SW.out _ hq) HW.out.size)))
        have QB : Hid (∀ W, Below wr.heap.size wr W → Calls Tryz.prog 12 #[.slice sy s.bs.length sd] W fun e w' => (∃ y c, e = .returned (.slice y s.bs.length c) ∧ RwF 1 (Is inC) (Fresh W.heap.size w'.heap.size) w' y s.bs) ∧ Below W.heap.size W w') := fun W hb => CloneN sy s.bs sd W (fun b h => Nat.lt_of_lt_of_le (Nat.lt_of_lt_of_le (SW.out b h) HW.out.size) hb.size) (sq.2.fr (fun q hq => hb.cell (Nat.lt_of_lt_of_le (SW.out _ hq) HW.out.size)))
        clear hbw se hlt sk sq
        have za := block_lt_of_cell e0
        go_upto_region 6 with fail
        obtain ⟨AJ, eW⟩ : ∃ AJ, AJ = wr.alloc (.cells #[.string s.nm, .int .i64 s.iv, .int .i64 s.sg, .int .i64 s.pr, .slice sx s.cs.length sc, .slice sy s.bs.length sd, .int .i64 s.bd] 46 (0, 0)) := ⟨_, rfl⟩
        have AJX : Hid (AJ.heap[wr.heap.size]? = some (.cells #[.string s.nm, .int .i64 s.iv, .int .i64 s.sg, .int .i64 s.pr, .slice sx s.cs.length sc, .slice sy s.bs.length sd, .int .i64 s.bd] 46 (0, 0))) := by rw [eW]; exact heap_alloc_last _ _
        have AJB : Hid (Below wr.heap.size wr AJ) := by rw [eW]; exact (Below.refl _ _).alloc (Nat.le_refl _) _
        have AJS : AJ.heap.size = wr.heap.size + 1 := by rw [eW]; simp
        rw [← eW]
        clear eW e0 e1 e2 e3 e4 e5 e6 za
        generalize hGJ : wr.heap.size = GJ at AJX AJB AJS QC QB ⊢
        have HGJ : Hid (wr.heap.size = GJ) := hGJ
        clear hGJ
        go_cut [] (fun wx => ∃ y0 c0 y2 c2, wx.heap[GJ]? = some (.cells #[.string s.nm, .int .i64 s.iv, .int .i64 s.sg, .int .i64 s.pr, (.slice y0 s.cs.length c0), (.slice y2 s.bs.length c2), .int .i64 s.bd] 46 (0, 0)) ∧ RwF 1 (Is inC) (Fresh (GJ + 1) wx.heap.size) wx y0 s.cs ∧ RwF 1 (Is inC) (Fresh (GJ + 1) wx.heap.size) wx y2 s.bs ∧ Below GJ wr wx ∧ GJ + 1 ≤ wx.heap.size)
        case first =>
          refine wp_region_J 7 (fun W => W.heap[GJ]? = some (.cells #[.string s.nm, .int .i64 s.iv, .int .i64 s.sg, .int .i64 s.pr, .slice sx s.cs.length sc, .slice sy s.bs.length sd, .int .i64 s.bd] 46 (0, 0))) (by kernel_rfl) AJX.out (fun hHeld => ?_)
          refine wpAnyJ_take (i := 0) (v := .pointer (some ⟨GJ, 4, none⟩)) rfl (by kernel_rfl) (by kernel_rfl) (by kernel_rfl) (by kernel_rfl) (fun _ _ _ h => h) (Or.inl ⟨by rfl, fun W hW => ?_⟩) hHeld ?_
          · go_simp
          simp only [Act.put, List.setIfInBounds_toArray]
          refine wpAnyJ_take (i := 1) (v := .slice sx s.cs.length sc) rfl (by kernel_rfl) (by kernel_rfl) (by kernel_rfl) (by kernel_rfl) (fun _ _ _ h => h) (Or.inl ⟨by rfl, fun W hW => ?_⟩) hHeld ?_
          · have cc : W.cell? ⟨GJ, 4, none⟩ = some (.slice sx s.cs.length sc) := by simp [World.cell?, show W.heap[GJ]? = _ from hW]
            go_simp
          simp only [Act.put]
          refine wpAnyJ_take (i := 3) (v := .pointer (some ⟨GJ, 5, none⟩)) rfl (by kernel_rfl) (by kernel_rfl) (by kernel_rfl) (by kernel_rfl) (fun _ _ _ h => h) (Or.inl ⟨by rfl, fun W hW => ?_⟩) hHeld ?_
          · go_simp
          simp only [Act.put]
          refine wpAnyJ_take (i := 4) (v := .slice sy s.bs.length sd) rfl (by kernel_rfl) (by kernel_rfl) (by kernel_rfl) (by kernel_rfl) (fun _ _ _ h => h) (Or.inl ⟨by rfl, fun W hW => ?_⟩) hHeld ?_
          · have cc : W.cell? ⟨GJ, 5, none⟩ = some (.slice sy s.bs.length sd) := by simp [World.cell?, show W.heap[GJ]? = _ from hW]
            go_simp
          simp only [Act.put]
          refine wpAnyJ_one (i := 2) (by kernel_rfl) rfl (fun K hK => ?_)
          go_simp
          refine (QC.out _ AJB.out.drew).mono ?_
          rintro r w0 ⟨⟨y0, c0, rfl, hk0⟩, hb0⟩
          have X0 : w0.heap[GJ]? = some (.cells #[.string s.nm, .int .i64 s.iv, .int .i64 s.sg, .int .i64 s.pr, .slice sx s.cs.length sc, .slice sy s.bs.length sd, .int .i64 s.bd] 46 (0, 0)) := (hb0.block _ (by show GJ < AJ.heap.size; omega)).trans AJX.out
          have B0 : Below GJ wr w0 := (AJB.out.drew).trans (hb0.mono (by show GJ ≤ AJ.heap.size; omega))
          have s0 := hb0.size
          change AJ.heap.size ≤ _ at s0
          refine hK.out _ _ (fun _ => X0) ?_
          clear hK K
          refine wpAnyJ_take (i := 6) (v := .pointer (some ⟨GJ, 4, none⟩)) rfl (by kernel_rfl) (by kernel_rfl) (by kernel_rfl) (by kernel_rfl) (fun _ _ _ h => h) (Or.inl ⟨by rfl, fun W hW => ?_⟩) X0 ?_
          · go_simp
          simp only [Act.put]
          refine wpAnyJ_one (i := 5) (by kernel_rfl) rfl (fun K hK => ?_)
          go_simp
          refine (QB.out _ B0).mono ?_
          rintro r w2 ⟨⟨y2, c2, rfl, hk2⟩, hb2⟩
          have X2 : w2.heap[GJ]? = some (.cells #[.string s.nm, .int .i64 s.iv, .int .i64 s.sg, .int .i64 s.pr, .slice sx s.cs.length sc, .slice sy s.bs.length sd, .int .i64 s.bd] 46 (0, 0)) := (hb2.block _ (by omega)).trans X0
          have B2 : Below GJ wr w2 := (B0).trans (hb2.mono (by omega))
          have s2 := hb2.size
          refine hK.out _ _ (fun _ => X2) ?_
          clear hK K
          have k0 : w2.cell? ⟨GJ, 4, none⟩ = some (.slice sx s.cs.length sc) := by simp [World.cell?, X2]
          have f0 : w2.frozen? ⟨GJ, 4, none⟩ = false := by simp [World.frozen?, X2]
          refine wpAnyJ_one (i := 7) (by kernel_rfl) rfl (fun K hK => ?_)
          go_simp
          refine hK.out _ _ (fun h => nomatch (show true = false from h)) ?_
          clear hK K
          have Z0 : (w2.setCell ⟨GJ, 4, none⟩ (.slice y0 s.cs.length c0)).heap[GJ]? = some (.cells #[.string s.nm, .int .i64 s.iv, .int .i64 s.sg, .int .i64 s.pr, (.slice y0 s.cs.length c0), .slice sy s.bs.length sd, .int .i64 s.bd] 46 (0, 0)) := by simp [World.setCell, Array.getElem?_modify, X2]
          obtain ⟨v0, ev0⟩ : ∃ v, v = w2.setCell ⟨GJ, 4, none⟩ (.slice y0 s.cs.length c0) := ⟨_, rfl⟩
          rw [← ev0] at Z0 ⊢
          have D0 : Below GJ wr v0 := by rw [ev0]; exact B2.setCell (Nat.le_refl _) _
          have T0 : v0.heap.size = w2.heap.size := by rw [ev0]; simp
          have U0 : ∀ k, GJ + 1 ≤ k → v0.heap[k]? = w2.heap[k]? := fun k hk => by rw [ev0]; exact Below.heap_setCell _ _ _ _ (by show k ≠ GJ; omega)
          clear ev0
          have k2 : v0.cell? ⟨GJ, 5, none⟩ = some (.slice sy s.bs.length sd) := by simp [World.cell?, Z0]
          have f2 : v0.frozen? ⟨GJ, 5, none⟩ = false := by simp [World.frozen?, Z0]
          refine wpAnyJ_one (i := 8) (by kernel_rfl) rfl (fun K hK => ?_)
          go_simp
          refine hK.out _ _ (fun h => nomatch (show true = false from h)) ?_
          clear hK K
          refine wpAnyJ_one (i := 9) (by kernel_rfl) rfl (fun K hK => ?_)
          go_simp
          refine hK.out _ _ (fun h => nomatch (show true = false from h)) ?_
          clear hK K
          have Z2 : (v0.setCell ⟨GJ, 5, none⟩ (.slice y2 s.bs.length c2)).heap[GJ]? = some (.cells #[.string s.nm, .int .i64 s.iv, .int .i64 s.sg, .int .i64 s.pr, (.slice y0 s.cs.length c0), (.slice y2 s.bs.length c2), .int .i64 s.bd] 46 (0, 0)) := by simp [World.setCell, Array.getElem?_modify, Z0]
          obtain ⟨v2, ev2⟩ : ∃ v, v = v0.setCell ⟨GJ, 5, none⟩ (.slice y2 s.bs.length c2) := ⟨_, rfl⟩
          rw [← ev2] at Z2 ⊢
          have D2 : Below GJ wr v2 := by rw [ev2]; exact D0.setCell (Nat.le_refl _) _
          have T2 : v2.heap.size = v0.heap.size := by rw [ev2]; simp
          have U2 : ∀ k, GJ + 1 ≤ k → v2.heap[k]? = v0.heap[k]? := fun k hk => by rw [ev2]; exact Below.heap_setCell _ _ _ _ (by show k ≠ GJ; omega)
          clear ev2
          refine wpAnyJ_done (by kernel_rfl) ?_ _
          refine Met.intro ?_
          go_step
          go_meet
          case rel =>
            have EE0 : ∀ k, GJ + 1 ≤ k → k < w0.heap.size → v2.heap[k]? = w0.heap[k]? := fun k p q => ((U2 k p).trans (U0 k p)).trans (hb2.block k (by omega))
            have EE2 : ∀ k, GJ + 1 ≤ k → k < w2.heap.size → v2.heap[k]? = w2.heap[k]? := fun k p q => (U2 k p).trans (U0 k p)
            exact ⟨y0, c0, y2, c2, Z2, (hk0.fr (up_fr EE0 (by show GJ + 1 ≤ AJ.heap.size; omega))).sub (up_sub (by show GJ + 1 ≤ AJ.heap.size; omega) (by omega)), (hk2.fr (up_fr EE2 (by omega))).sub (up_sub (by omega) (by omega)), D2, by omega⟩
        case rest =>
          obtain ⟨z0, d0, z2, d2, bx, k0, k2, hb, hs'⟩ := hcut
          clear AJX AJB AJS QC QB
          have HGE := HGJ.out
          have B5 : Hid (Below wr.heap.size wr wc) := by show Below _ _ _; rw [HGE]; exact hb
          have F5 : Hid (JbQ (Fresh wr.heap.size wc.heap.size) wc s z0 z2) := ⟨k0.sub (up_sub (by omega) (Nat.le_refl _)), k2.sub (up_sub (by omega) (Nat.le_refl _))⟩
          have g0 : wc.cell? ⟨GJ, 0, none⟩ = some (.string s.nm) := by simp [World.cell?, bx]
          have g1 : wc.cell? ⟨GJ, 1, none⟩ = some (.int .i64 s.iv) := by simp [World.cell?, bx]
          have g2 : wc.cell? ⟨GJ, 2, none⟩ = some (.int .i64 s.sg) := by simp [World.cell?, bx]
          have g3 : wc.cell? ⟨GJ, 3, none⟩ = some (.int .i64 s.pr) := by simp [World.cell?, bx]
          have g4 : wc.cell? ⟨GJ, 4, none⟩ = some (.slice z0 s.cs.length d0) := by simp [World.cell?, bx]
          have g5 : wc.cell? ⟨GJ, 5, none⟩ = some (.slice z2 s.bs.length d2) := by simp [World.cell?, bx]
          have g6 : wc.cell? ⟨GJ, 6, none⟩ = some (.int .i64 s.bd) := by simp [World.cell?, bx]
          clear bx hb k0 k2 HGE
          have ew : wrap64 ((k : Int) + 1) = (k : Int) + 1 := by have := LJ.out; have := LT.out; unfold wrap64; omega
          have OW5 : Hid (∀ X : Obj, (wc.alloc X).ownsRow WC.heap.size 46 7 u3 k vss.flatten) := fun X => (own_bel OW.out B5.out).alloc X
          have NW : Hid (∀ j u, (jbC s (.slice z0 s.cs.length d0) (.slice z2 s.bs.length d2))[j]? = some u → (wc.alloc (.cells (jbC s (.slice z0 s.cs.length d0) (.slice z2 s.bs.length d2)).toArray 46)).cell? ((⟨wc.heap.size, 0, none⟩ : Addr).add j) = some u) := fun j u h => mk_cells wc _ _ j u h
          have BZ : Hid (∀ X : Obj, WC.heap.size ≤ (wc.alloc X).heap.size) := fun X => by have := HW.out.size; have := B5.out.size; simp; omega
          have LE : Hid (k + 1 ≤ 549755813888) := by have := LJ.out; have := LT.out; show k + 1 ≤ _; omega
          have I : Hid _ := infoJi
          go_wp2_with (at_builtin; obtain ⟨i, z, hi, hz, hs', hy, hzc⟩ := I.out; refine wpList_append_own_at _ rfl _ _ 24 rfl WC.heap.size 46 i z 7 96 Tryz.underlying24 hi hz hs' hy hzc (by decide) u3 k vss.flatten rfl (OW5.out _) ⟨wc.heap.size, 0, none⟩ 1 1 (jbC s (.slice z0 s.cs.length d0) (.slice z2 s.bs.length d2)) rfl rfl NW.out (by intro u hu; simp at hu; rcases hu with h | h | h | h | h | h | h <;> subst h <;> rfl) (by have := LE.out; simp [maxLen]; omega) (by have := LE.out; omega) (BZ.out _) ?_; intro v' w7 q1 q2 q3 q4; have Q1 : Hid _ := q1; have Q2 : Hid _ := q2; have Q4 : Hid _ := q4; clear q1 q2 q3 q4 hi hz hs' hy hzc)
          rw [ew]
          have b6x : ∀ X : Obj, Below wc.heap.size wc (wc.alloc X) := fun X => (Below.refl _ _).alloc (Nat.le_refl _) _
          have s0 := HW.out.size
          refine ⟨⟨k + 1, Nat.succ_le_of_lt LT.out, rfl, ?_, MkI.step keptJ EHS.out HVN.out EV'.out OW.out.lt _ _ ES.out rfl s0 (B5.out.trans ((b6x _).mono B5.out.size)) ⟨z0, d0, z2, d2, rfl, (F5.out.fr (fun q hq => (b6x _).cell hq.2)).sub (up_sub (Nat.le_refl _) (b6x _).size)⟩ Q2.out Q1.out Q4.out⟩, msr LT.out⟩
          exact (HW.out.trans ((B5.out.trans ((b6x _).mono B5.out.size)).mono s0)).grown Q2.out (Nat.le_trans s0 (Nat.le_trans B5.out.size (b6x _).size)) (fun g e => (OW.out.lt g e).1)
      · have kl : ¬ (k : Int) < m.js.length := by omega
        have ek : k = m.js.length := by omega
        subst ek
        obtain ⟨y3, c3, rfl, hy⟩ := hcp.done keptJ LJ.out
        have HY : Hid (RwF 7 (JbP (Fresh WC.heap.size wr.heap.size) wr) (Fresh WC.heap.size wr.heap.size) wr y3 m.js) := hy
        clear hy hcp hlt
        have sw := hbw.size
        have BX2 : wr.heap[G]? = some (.cells #[.string m.nm, .slice y0 m.cs.length c0, .slice y2 m.fs.length c2, .slice x3 m.js.length p3] 26 (0, 0)) := (hbw.block _ (by omega)).trans BX.out
        have BY2 : wr.heap[G + 1]? = some (.cells #[.string ⟨#[]⟩, .slice none 0 0, .slice none 0 0, .slice none 0 0] 26 (0, 0)) := (hbw.block _ (by omega)).trans BY.out
        have BYH : Hid (∀ v, (wr.setCell ⟨G, 3, none⟩ v).heap[G + 1]? = some (.cells #[.string ⟨#[]⟩, .slice none 0 0, .slice none 0 0, .slice none 0 0] 26 (0, 0))) := fun v => (Below.heap_setCell _ _ _ _ (by simp)).trans BY2
        have a0 : wr.cell? ⟨G, 0, none⟩ = some (.string m.nm) := by simp [World.cell?, BX2]
        have a1 : wr.cell? ⟨G, 1, none⟩ = some (.slice y0 m.cs.length c0) := by simp [World.cell?, BX2]
        have a2 : wr.cell? ⟨G, 2, none⟩ = some (.slice y2 m.fs.length c2) := by simp [World.cell?, BX2]
        have a3 : wr.cell? ⟨G, 3, none⟩ = some (.slice x3 m.js.length p3) := by simp [World.cell?, BX2]
        have fz : wr.frozen? ⟨G, 3, none⟩ = false := by simp [World.frozen?, BX2]
        clear hbw BX2 BY2 BX BY
        go_wp2_with (refine wpList_store_row rfl 26 _ _ rfl (G + 1) _ rfl rfl _ _ (BYH.out _) im_info rfl (by kernel_rfl) ?_)
        obtain ⟨W3, e3⟩ : ∃ W3, W3 = (wr.setCell ⟨G, 3, none⟩ (.slice y3 m.js.length c3)).setRow (G + 1) #[.string m.nm, .slice y0 m.cs.length c0, .slice y2 m.fs.length c2, .slice y3 m.js.length c3] := ⟨_, rfl⟩
        rw [← e3]
        have hz : W3.heap[G + 1]? = some (.cells #[.string m.nm, .slice y0 m.cs.length c0, .slice y2 m.fs.length c2, .slice y3 m.js.length c3] 26 (0, 0)) := by rw [e3]; exact setRow_heap _ _ _ _ _ _ (BYH.out _)
        have sz : W3.heap.size = wr.heap.size := by rw [e3]; simp [World.setRow, World.setCell]
        have hw : ∀ k, G + 2 ≤ k → W3.heap[k]? = wr.heap[k]? := fun k hk => by rw [e3]; exact (setRow_other _ _ _ _ (by omega)).trans (Below.heap_setCell _ _ _ _ (by simp; omega))
        have B7 : Below G w wr := BB.out.trans (HW.out.mono (by omega))
        have hl : Below G w W3 := B7.trans ⟨by rw [e3]; rfl, by rw [e3]; rfl, by rw [e3]; rfl, by omega, fun k hk => by rw [e3]; exact (setRow_other _ _ _ _ (by omega)).trans (Below.heap_setCell _ _ _ _ (by simp; omega))⟩
        have fr : FrS (Fresh (G + 2) wr.heap.size) wr W3 := fun q hq => World.cell?_of_block (hw _ hq.1)
        have fc : FrS (Fresh (G + 2) WC.heap.size) WC W3 := fun q hq => World.cell?_of_block ((hw _ hq.1).trans (HW.out.block _ hq.2))
        have fj : FrS (Fresh WC.heap.size wr.heap.size) wr W3 := fun q hq => fr q ⟨by have := hq.1; omega, hq.2⟩
        refine bodyPost_ret (v := .agg #[.string m.nm, .slice y0 m.cs.length c0, .slice y2 m.fs.length c2, .slice y3 m.js.length c3]) (results_cell_row Tryz.results4 _ _ (G + 1) _ _ (0, 0) _ (by simp) hz Tryz.underlying26 rfl im_info) rfl ?_
        have eg : w.heap.size = G := HG.out
        exact ⟨⟨y0, c0, y2, c2, y3, ⟨c3, rfl⟩, (K0.out.fr fc).sub (up_sub (by omega) (by omega)), (K2.out.frK keptF fc).subK keptF (up_sub (by omega) (by omega)), (HY.out.frK keptJ fj).subK keptJ (up_sub (by omega) (by omega))⟩, by rw [eg]; exact hl⟩
end Go.Proofs.YtpcjnhffpkpchaaGreat
