/- A code copied; codes in a row copied; no statement of the seat is proved here. -/
import Derived.Test.YtemoebhjcjfmjaaImB
import Derived.Test.YtemoebhjcjfmjaaRgJ
import Derived.Deep.DeepCutAuto
namespace Go.Proofs.Ytemoebhjcjfmjaa
set_option linter.unusedVariables false
open Go.RowKit
theorem up_fr {a b G : Nat} {w v : World} (h : ∀ k, G + 1 ≤ k → k < b → v.heap[k]? = w.heap[k]?) (ha : G + 1 ≤ a) : FrS (Fresh a b) w v := fun q hq => World.cell?_of_block (h _ (Nat.le_trans ha hq.1) hq.2)
theorem up_sub {a b a' b' : Nat} (h1 : a' ≤ a) (h2 : b ≤ b') : ∀ g, Fresh a b g → Fresh a' b' g := fun _ q => ⟨Nat.le_trans h1 q.1, Nat.lt_of_lt_of_le q.2 h2⟩
theorem own_bel {w w' : World} {base : Nat} {e : TypeId} {size : Nat} {v : Value} {n : Nat} {xs : List Value} (h : w.ownsRow base e size v n xs) (hb : Below w.heap.size w w') : w'.ownsRow base e size v n xs :=
  h.kept (row := none) ⟨hb.os, hb.tape, hb.output, hb.size, fun k hk _ => hb.block k hk⟩ (by cases v.ownBlock <;> simp)
theorem mk_cells (w : World) (L : List Value) (t : TypeId) (j : Nat) (u : Value) (h : L[j]? = some u) : (w.alloc (.cells L.toArray t)).cell? ((⟨w.heap.size, 0, none⟩ : Addr).add j) = some u := by
  have e : (⟨w.heap.size, 0, none⟩ : Addr).add j = ⟨w.heap.size, j, none⟩ := by unfold Addr.add; split <;> simp_all
  rw [e]
  have q := heap_alloc_last w (.cells L.toArray t)
  unfold World.cell?
  simp only [q]
  simpa using h
theorem fl_info : (Try.prog.info? 46).map (·.size) = some 8 := by kernel_rfl
theorem two_al (w2 : World) (X Y : Obj) : ((w2.alloc X).alloc Y).heap[w2.heap.size]? = some X ∧ ((w2.alloc X).alloc Y).heap[w2.heap.size + 1]? = some Y := by
  have q := heap_alloc_last (w2.alloc X) Y
  rw [show (w2.alloc X).heap.size = w2.heap.size + 1 by simp] at q
  exact ⟨(Below.heap_alloc _ _ _ (by simp)).trans (heap_alloc_last _ _), q⟩
set_option maxRecDepth 20000 in
set_option maxHeartbeats 8000000 in
theorem Flat_of (f : FlR) (x1 x2 : Option Addr) (p1 p2 : Nat) (w : World) {S : Nat → Prop} (hS : ∀ b, S b → b < w.heap.size) (ha : FlQ S w f x1 x2) :
    Calls Try.prog 17 #[.agg #[.string f.nm, .int .i64 f.wh, .int .i64 f.ce, .int .i64 f.ba, .int .i64 f.rg, .int .i64 f.sl, .slice x1 f.os.length p1, .slice x2 f.ls.length p2]] w fun e w' => (∃ y0 c0 y2 c2, e = .returned (.agg #[.string f.nm, .int .i64 f.wh, .int .i64 f.ce, .int .i64 f.ba, .int .i64 f.rg, .int .i64 f.sl, .slice y0 f.os.length c0, .slice y2 f.ls.length c2]) ∧ FlQ (Fresh w.heap.size w'.heap.size) w' f y0 y2) ∧ Below w.heap.size w w' := by
  have Q0 : Hid (∀ W, Below w.heap.size w W → Calls Try.prog 22 #[.slice x1 f.os.length p1] W fun e w' => (∃ y c, e = .returned (.slice y f.os.length c) ∧ RwF 10 (Is opC) (Fresh W.heap.size w'.heap.size) w' y f.os) ∧ Below W.heap.size W w') := fun W hb => CloneO x1 f.os p1 W (fun b h => Nat.lt_of_lt_of_le (hS b h) hb.size) (ha.1.fr (fun q hq => hb.cell (hS _ hq)))
  have Q2 : Hid (∀ W, Below w.heap.size w W → Calls Try.prog 23 #[.slice x2 f.ls.length p2] W fun e w' => (∃ y c, e = .returned (.slice y f.ls.length c) ∧ RwF 3 (Is lpC) (Fresh W.heap.size w'.heap.size) w' y f.ls) ∧ Below W.heap.size W w') := fun W hb => CloneL x2 f.ls p2 W (fun b h => Nat.lt_of_lt_of_le (hS b h) hb.size) (ha.2.fr (fun q hq => hb.cell (hS _ hq)))
  clear ha hS
  go_enter Try.func17, Try.ntmps17
  go_upto_region 1 with fail
  obtain ⟨AW, eW⟩ : ∃ AW, AW = (w.alloc (.cells #[.string f.nm, .int .i64 f.wh, .int .i64 f.ce, .int .i64 f.ba, .int .i64 f.rg, .int .i64 f.sl, .slice x1 f.os.length p1, .slice x2 f.ls.length p2] 46 (0, 0))).alloc (.cells #[.string ⟨#[]⟩, .int .i64 0, .int .i64 0, .int .i64 0, .int .i64 0, .int .i64 0, .slice none 0 0, .slice none 0 0] 46 (0, 0)) := ⟨_, rfl⟩
  have AX : Hid (AW.heap[w.heap.size]? = some (.cells #[.string f.nm, .int .i64 f.wh, .int .i64 f.ce, .int .i64 f.ba, .int .i64 f.rg, .int .i64 f.sl, .slice x1 f.os.length p1, .slice x2 f.ls.length p2] 46 (0, 0))) := by rw [eW]; exact (two_al w _ _).1
  have AY : Hid (AW.heap[w.heap.size + 1]? = some (.cells #[.string ⟨#[]⟩, .int .i64 0, .int .i64 0, .int .i64 0, .int .i64 0, .int .i64 0, .slice none 0 0, .slice none 0 0] 46 (0, 0))) := by rw [eW]; exact (two_al w _ _).2
  have AB : Hid (Below w.heap.size w AW) := by rw [eW]; exact ((Below.refl _ _).alloc (Nat.le_refl _) _).alloc (by simp) _
  have AS : AW.heap.size = w.heap.size + 2 := by rw [eW]; simp
  rw [← eW]
  clear eW
  generalize hG : w.heap.size = G at AX AY AB AS Q0 Q2 ⊢
  have HG : Hid (w.heap.size = G) := hG
  clear hG
  go_cut [] (fun wx => ∃ y0 c0 y2 c2, wx.heap[G]? = some (.cells #[.string f.nm, .int .i64 f.wh, .int .i64 f.ce, .int .i64 f.ba, .int .i64 f.rg, .int .i64 f.sl, (.slice y0 f.os.length c0), (.slice y2 f.ls.length c2)] 46 (0, 0)) ∧ RwF 10 (Is opC) (Fresh (G + 2) wx.heap.size) wx y0 f.os ∧ RwF 3 (Is lpC) (Fresh (G + 2) wx.heap.size) wx y2 f.ls ∧ Below G w wx ∧ G + 2 ≤ wx.heap.size ∧ wx.heap[G + 1]? = some (.cells #[.string ⟨#[]⟩, .int .i64 0, .int .i64 0, .int .i64 0, .int .i64 0, .int .i64 0, .slice none 0 0, .slice none 0 0] 46 (0, 0)))
  case first =>
    refine wp_region_J 7 (fun W => W.heap[G]? = some (.cells #[.string f.nm, .int .i64 f.wh, .int .i64 f.ce, .int .i64 f.ba, .int .i64 f.rg, .int .i64 f.sl, .slice x1 f.os.length p1, .slice x2 f.ls.length p2] 46 (0, 0))) (by kernel_rfl) AX.out (fun hHeld => ?_)
    refine wpAnyJ_take (i := 0) (v := .pointer (some ⟨G, 6, none⟩)) rfl (by kernel_rfl) (by kernel_rfl) (by kernel_rfl) (by kernel_rfl) (fun _ _ _ h => h) (Or.inl ⟨by rfl, fun W hW => ?_⟩) hHeld ?_
    · go_simp
    simp only [Act.put, List.setIfInBounds_toArray]
    refine wpAnyJ_take (i := 1) (v := .slice x1 f.os.length p1) rfl (by kernel_rfl) (by kernel_rfl) (by kernel_rfl) (by kernel_rfl) (fun _ _ _ h => h) (Or.inl ⟨by rfl, fun W hW => ?_⟩) hHeld ?_
    · have cc : W.cell? ⟨G, 6, none⟩ = some (.slice x1 f.os.length p1) := by simp [World.cell?, show W.heap[G]? = _ from hW]
      go_simp
    simp only [Act.put]
    refine wpAnyJ_take (i := 3) (v := .pointer (some ⟨G, 7, none⟩)) rfl (by kernel_rfl) (by kernel_rfl) (by kernel_rfl) (by kernel_rfl) (fun _ _ _ h => h) (Or.inl ⟨by rfl, fun W hW => ?_⟩) hHeld ?_
    · go_simp
    simp only [Act.put]
    refine wpAnyJ_take (i := 4) (v := .slice x2 f.ls.length p2) rfl (by kernel_rfl) (by kernel_rfl) (by kernel_rfl) (by kernel_rfl) (fun _ _ _ h => h) (Or.inl ⟨by rfl, fun W hW => ?_⟩) hHeld ?_
    · have cc : W.cell? ⟨G, 7, none⟩ = some (.slice x2 f.ls.length p2) := by simp [World.cell?, show W.heap[G]? = _ from hW]
      go_simp
    simp only [Act.put]
    refine wpAnyJ_one (i := 2) (by kernel_rfl) rfl (fun K hK => ?_)
    go_simp
    refine (Q0.out _ AB.out.drew).mono ?_
    rintro r w0 ⟨⟨y0, c0, rfl, hk0⟩, hb0⟩
    have X0 : w0.heap[G]? = some (.cells #[.string f.nm, .int .i64 f.wh, .int .i64 f.ce, .int .i64 f.ba, .int .i64 f.rg, .int .i64 f.sl, .slice x1 f.os.length p1, .slice x2 f.ls.length p2] 46 (0, 0)) := (hb0.block _ (by show G < AW.heap.size; omega)).trans AX.out
    have B0 : Below G w w0 := (AB.out.drew).trans (hb0.mono (by show G ≤ AW.heap.size; omega))
    have s0 := hb0.size
    change AW.heap.size ≤ _ at s0
    refine hK.out _ _ (fun _ => X0) ?_
    clear hK K
    refine wpAnyJ_take (i := 6) (v := .pointer (some ⟨G, 6, none⟩)) rfl (by kernel_rfl) (by kernel_rfl) (by kernel_rfl) (by kernel_rfl) (fun _ _ _ h => h) (Or.inl ⟨by rfl, fun W hW => ?_⟩) X0 ?_
    · go_simp
    simp only [Act.put]
    refine wpAnyJ_one (i := 5) (by kernel_rfl) rfl (fun K hK => ?_)
    go_simp
    refine (Q2.out _ B0).mono ?_
    rintro r w2 ⟨⟨y2, c2, rfl, hk2⟩, hb2⟩
    have X2 : w2.heap[G]? = some (.cells #[.string f.nm, .int .i64 f.wh, .int .i64 f.ce, .int .i64 f.ba, .int .i64 f.rg, .int .i64 f.sl, .slice x1 f.os.length p1, .slice x2 f.ls.length p2] 46 (0, 0)) := (hb2.block _ (by omega)).trans X0
    have B2 : Below G w w2 := (B0).trans (hb2.mono (by omega))
    have s2 := hb2.size
    refine hK.out _ _ (fun _ => X2) ?_
    clear hK K
    have k0 : w2.cell? ⟨G, 6, none⟩ = some (.slice x1 f.os.length p1) := by simp [World.cell?, X2]
    have f0 : w2.frozen? ⟨G, 6, none⟩ = false := by simp [World.frozen?, X2]
    refine wpAnyJ_one (i := 7) (by kernel_rfl) rfl (fun K hK => ?_)
    go_simp
    refine hK.out _ _ (fun h => nomatch (show true = false from h)) ?_
    clear hK K
    have Z0 : (w2.setCell ⟨G, 6, none⟩ (.slice y0 f.os.length c0)).heap[G]? = some (.cells #[.string f.nm, .int .i64 f.wh, .int .i64 f.ce, .int .i64 f.ba, .int .i64 f.rg, .int .i64 f.sl, (.slice y0 f.os.length c0), .slice x2 f.ls.length p2] 46 (0, 0)) := by simp [World.setCell, Array.getElem?_modify, X2]
    obtain ⟨v0, ev0⟩ : ∃ v, v = w2.setCell ⟨G, 6, none⟩ (.slice y0 f.os.length c0) := ⟨_, rfl⟩
    rw [← ev0] at Z0 ⊢
    have D0 : Below G w v0 := by rw [ev0]; exact B2.setCell (Nat.le_refl _) _
    have T0 : v0.heap.size = w2.heap.size := by rw [ev0]; simp
    have U0 : ∀ k, G + 1 ≤ k → v0.heap[k]? = w2.heap[k]? := fun k hk => by rw [ev0]; exact Below.heap_setCell _ _ _ _ (by show k ≠ G; omega)
    clear ev0
    have k2 : v0.cell? ⟨G, 7, none⟩ = some (.slice x2 f.ls.length p2) := by simp [World.cell?, Z0]
    have f2 : v0.frozen? ⟨G, 7, none⟩ = false := by simp [World.frozen?, Z0]
    refine wpAnyJ_one (i := 8) (by kernel_rfl) rfl (fun K hK => ?_)
    go_simp
    refine hK.out _ _ (fun h => nomatch (show true = false from h)) ?_
    clear hK K
    refine wpAnyJ_one (i := 9) (by kernel_rfl) rfl (fun K hK => ?_)
    go_simp
    refine hK.out _ _ (fun h => nomatch (show true = false from h)) ?_
    clear hK K
    have Z2 : (v0.setCell ⟨G, 7, none⟩ (.slice y2 f.ls.length c2)).heap[G]? = some (.cells #[.string f.nm, .int .i64 f.wh, .int .i64 f.ce, .int .i64 f.ba, .int .i64 f.rg, .int .i64 f.sl, (.slice y0 f.os.length c0), (.slice y2 f.ls.length c2)] 46 (0, 0)) := by simp [World.setCell, Array.getElem?_modify, Z0]
    obtain ⟨v2, ev2⟩ : ∃ v, v = v0.setCell ⟨G, 7, none⟩ (.slice y2 f.ls.length c2) := ⟨_, rfl⟩
    rw [← ev2] at Z2 ⊢
    have D2 : Below G w v2 := by rw [ev2]; exact D0.setCell (Nat.le_refl _) _
    have T2 : v2.heap.size = v0.heap.size := by rw [ev2]; simp
    have U2 : ∀ k, G + 1 ≤ k → v2.heap[k]? = v0.heap[k]? := fun k hk => by rw [ev2]; exact Below.heap_setCell _ _ _ _ (by show k ≠ G; omega)
    clear ev2
    refine wpAnyJ_done (by kernel_rfl) ?_ _
    refine Met.intro ?_
    go_step
    go_meet
    case rel =>
      have EE0 : ∀ k, G + 1 ≤ k → k < w0.heap.size → v2.heap[k]? = w0.heap[k]? := fun k p q => ((U2 k p).trans (U0 k p)).trans (hb2.block k (by omega))
      have EE2 : ∀ k, G + 1 ≤ k → k < w2.heap.size → v2.heap[k]? = w2.heap[k]? := fun k p q => (U2 k p).trans (U0 k p)
      exact ⟨y0, c0, y2, c2, Z2, (hk0.fr (up_fr EE0 (by show G + 1 ≤ AW.heap.size; omega))).sub (up_sub (by show G + 2 ≤ AW.heap.size; omega) (by omega)), (hk2.fr (up_fr EE2 (by omega))).sub (up_sub (by omega) (by omega)), D2, by omega, (U2 (G + 1) (by omega)).trans ((U0 (G + 1) (by omega)).trans ((hb2.block (G + 1) (by omega)).trans ((hb0.block (G + 1) (by show G + 1 < AW.heap.size; omega)).trans AY.out)))⟩
  case rest =>
    obtain ⟨y0, c0, y2, c2, bx, k0, k2, hb, hs, by1⟩ := hcut
    clear AX AY AB AS Q0 Q2
    have K0 : Hid (RwF 10 (Is opC) (Fresh (G + 2) wc.heap.size) wc y0 f.os) := k0
    have K2 : Hid (RwF 3 (Is lpC) (Fresh (G + 2) wc.heap.size) wc y2 f.ls) := k2
    have BB : Hid (Below G w wc) := hb
    have b0 : wc.cell? ⟨G, 0, none⟩ = some (.string f.nm) := by simp [World.cell?, bx]
    have b1 : wc.cell? ⟨G, 1, none⟩ = some (.int .i64 f.wh) := by simp [World.cell?, bx]
    have b2 : wc.cell? ⟨G, 2, none⟩ = some (.int .i64 f.ce) := by simp [World.cell?, bx]
    have b3 : wc.cell? ⟨G, 3, none⟩ = some (.int .i64 f.ba) := by simp [World.cell?, bx]
    have b4 : wc.cell? ⟨G, 4, none⟩ = some (.int .i64 f.rg) := by simp [World.cell?, bx]
    have b5 : wc.cell? ⟨G, 5, none⟩ = some (.int .i64 f.sl) := by simp [World.cell?, bx]
    have b6 : wc.cell? ⟨G, 6, none⟩ = some (.slice y0 f.os.length c0) := by simp [World.cell?, bx]
    have b7 : wc.cell? ⟨G, 7, none⟩ = some (.slice y2 f.ls.length c2) := by simp [World.cell?, bx]
    have BY : Hid (wc.heap[G + 1]? = some (.cells #[.string ⟨#[]⟩, .int .i64 0, .int .i64 0, .int .i64 0, .int .i64 0, .int .i64 0, .slice none 0 0, .slice none 0 0] 46 (0, 0))) := by1
    clear bx hb k0 k2 by1
    go_wp2_with (refine wpList_store_row rfl 46 _ _ rfl (G + 1) _ rfl rfl _ _ BY.out fl_info rfl (by kernel_rfl) ?_)
    obtain ⟨W3, e3⟩ : ∃ W3, W3 = wc.setRow (G + 1) #[.string f.nm, .int .i64 f.wh, .int .i64 f.ce, .int .i64 f.ba, .int .i64 f.rg, .int .i64 f.sl, .slice y0 f.os.length c0, .slice y2 f.ls.length c2] := ⟨_, rfl⟩
    rw [← e3]
    have hz : W3.heap[G + 1]? = some (.cells #[.string f.nm, .int .i64 f.wh, .int .i64 f.ce, .int .i64 f.ba, .int .i64 f.rg, .int .i64 f.sl, .slice y0 f.os.length c0, .slice y2 f.ls.length c2] 46 (0, 0)) := by rw [e3]; exact setRow_heap _ _ _ _ _ _ BY.out
    have sz : W3.heap.size = wc.heap.size := by rw [e3]; simp [World.setRow]
    have hw : ∀ k, G + 2 ≤ k → W3.heap[k]? = wc.heap[k]? := fun k hk => by rw [e3]; exact setRow_other _ _ _ _ (by omega)
    have hl : Below G w W3 := BB.out.trans ⟨by rw [e3]; rfl, by rw [e3]; rfl, by rw [e3]; rfl, by omega, fun k hk => by rw [e3]; exact setRow_other _ _ _ _ (by omega)⟩
    have fr : FrS (Fresh (G + 2) wc.heap.size) wc W3 := fun q hq => World.cell?_of_block (hw _ hq.1)
    refine bodyPost_ret (v := .agg #[.string f.nm, .int .i64 f.wh, .int .i64 f.ce, .int .i64 f.ba, .int .i64 f.rg, .int .i64 f.sl, .slice y0 f.os.length c0, .slice y2 f.ls.length c2]) (results_cell_row Try.results17 _ _ (G + 1) _ _ (0, 0) _ (by simp [Act.put]) hz Try.underlying46 rfl fl_info) rfl ?_
    have eg : w.heap.size = G := HG.out
    exact ⟨⟨y0, c0, y2, c2, rfl, (K0.out.fr fr).sub (up_sub (by omega) (by omega)), (K2.out.fr fr).sub (up_sub (by omega) (by omega))⟩, by rw [eg]; exact hl⟩
end Go.Proofs.Ytemoebhjcjfmjaa
