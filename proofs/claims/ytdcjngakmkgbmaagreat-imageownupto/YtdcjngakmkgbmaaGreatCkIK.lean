/- image: the spans of an instruction's fields; no statement of the seat is proved here. -/
import Derived.Test.YtdcjngakmkgbmaaGreatCkHK
import Derived.Test.YtdcjngakmkgbmaaGreatKoA3
import Derived.Deep.DeepCutAuto
namespace Go.Proofs.YtdcjngakmkgbmaaGreat
set_option linter.unusedVariables false
open Go.RowKit
theorem eval_put (a : Act) (d j : Nat) (v : Value) (h : d ≠ j) : (a.put (some d) v).eval (.tmp j) = a.eval (.tmp j) := by
  simp [Act.eval, Act.put, h]
theorem tv_at (w2 : World) (X Y : Obj) : ((w2.alloc X).alloc Y).heap[w2.heap.size]? = some X ∧ ((w2.alloc X).alloc Y).heap[w2.heap.size + 1]? = some Y := by
  have q := heap_alloc_last (w2.alloc X) Y
  rw [show (w2.alloc X).heap.size = w2.heap.size + 1 by simp] at q
  exact ⟨(Below.heap_alloc _ _ _ (by simp)).trans (heap_alloc_last _ _), q⟩
theorem put_nO {a : Act} {d : Option Tmp} {v : Value} (h : d = none) : a.put d v = a := by subst h; rfl
theorem row_bel {w wr : World} (h : Below w.heap.size w wr) {g : Nat} (hg : w.heap.size ≤ g) (cs : Array Value) : Below w.heap.size w (wr.setRow g cs) :=
  h.trans ⟨rfl, rfl, rfl, by simp [World.setRow], fun k hk => setRow_other _ _ _ _ (by omega)⟩
/-- The spans of four fields as a value. -/
def spV (s : (Int × Int) × (Int × Int) × (Int × Int) × (Int × Int)) : Value := .agg #[.int .i64 s.1.1, .int .i64 s.1.2, .int .i64 s.2.1.1, .int .i64 s.2.1.2, .int .i64 s.2.2.1.1, .int .i64 s.2.2.1.2, .int .i64 s.2.2.2.1, .int .i64 s.2.2.2.2]
theorem ar_info : (Tryz.prog.info? 150).map (·.size) = some 8 := by kernel_rfl
theorem sp_info : (Tryz.prog.info? 147).map (·.size) = some 2 := by kernel_rfl
set_option maxRecDepth 20000 in
set_option maxHeartbeats 8000000 in
theorem fieldSpans_of (cd : Int) (f : FlR) (x1 x2 : Option Addr) (p1 p2 : Nat) (cs : Int) (hc : 1 ≤ cd ∧ cd ≤ 23) (hr : -9223372036854775808 < f.rg ∧ f.rg < 9223372036854775808) (hs : -9223372036854775808 < f.sl ∧ f.sl < 9223372036854775808) (hq : -9223372036854775808 < cs ∧ cs < 9223372036854775808) (hn : -9223372036854775808 < (f.os.length : Int) ∧ (f.os.length : Int) < 9223372036854775808) (w : World) : Calls Tryz.prog 95 #[.int .i64 cd, FlV f x1 x2 p1 p2, .int .i64 cs] w fun e w' => e = .returned (spV (spO cd (f.rg - 1) (f.sl - 1) ((f.os.length : Int) - 1) (cs - 1))) ∧ Below w.heap.size w w' := by
  obtain ⟨AW, eW⟩ : ∃ AW, AW = (w.alloc (.cells #[.string f.nm, .int .i64 f.wh, .int .i64 f.ce, .int .i64 f.ba, .int .i64 f.rg, .int .i64 f.sl, .slice x1 f.os.length p1, .slice x2 f.ls.length p2] 44 (0, 0))).alloc (.cells #[.int .i64 0, .int .i64 0, .int .i64 0, .int .i64 0, .int .i64 0, .int .i64 0, .int .i64 0, .int .i64 0] 150 (0, 0)) := ⟨_, rfl⟩
  have AX : Hid (AW.heap[w.heap.size]? = some (.cells #[.string f.nm, .int .i64 f.wh, .int .i64 f.ce, .int .i64 f.ba, .int .i64 f.rg, .int .i64 f.sl, .slice x1 f.os.length p1, .slice x2 f.ls.length p2] 44 (0, 0))) := by rw [eW]; exact (tv_at w _ _).1
  have AY : Hid (AW.heap[w.heap.size + 1]? = some (.cells #[.int .i64 0, .int .i64 0, .int .i64 0, .int .i64 0, .int .i64 0, .int .i64 0, .int .i64 0, .int .i64 0] 150 (0, 0))) := by rw [eW]; exact (tv_at w _ _).2
  have AB : Hid (Below w.heap.size w AW) := by rw [eW]; exact ((Below.refl _ _).alloc (Nat.le_refl _) _).alloc (by simp) _
  go_enter Tryz.func95, Tryz.ntmps95
  go_upto_region 1 with fail
  rw [← eW]
  clear eW
  go_cut [7, 8, 9] (fun s7 s8 s9 wx => ∃ g7 g8 g9, s7 = .pointer (some ⟨g7, 0, none⟩) ∧ s8 = .pointer (some ⟨g8, 0, none⟩) ∧ s9 = .pointer (some ⟨g9, 0, none⟩) ∧ wx.heap[g7]? = some (.cells #[.int .i64 0, .int .i64 (f.rg - 1)] 147 (0, 0)) ∧ wx.heap[g8]? = some (.cells #[.int .i64 0, .int .i64 (f.sl - 1)] 147 (0, 0)) ∧ wx.heap[g9]? = some (.cells #[.int .i64 0, .int .i64 ((f.os.length : Int) - 1)] 147 (0, 0)) ∧ Below w.heap.size w wx ∧ w.heap.size + 2 ≤ g7 ∧ w.heap.size + 2 ≤ g8 ∧ w.heap.size + 2 ≤ g9 ∧ wx.heap[w.heap.size + 1]? = some (.cells #[.int .i64 0, .int .i64 0, .int .i64 0, .int .i64 0, .int .i64 0, .int .i64 0, .int .i64 0, .int .i64 0] 150 (0, 0)))
  case first =>
    refine wp_region_held_drew (S := fun V => V.heap[w.heap.size]? = some (.cells #[.string f.nm, .int .i64 f.wh, .int .i64 f.ce, .int .i64 f.ba, .int .i64 f.rg, .int .i64 f.sl, .slice x1 f.os.length p1, .slice x2 f.ls.length p2] 44 (0, 0))) (by kernel_rfl) AX.out (fun hHeld => ?_)
    refine wpAnyH_takeD (i := 0) (d := 12) (v := .pointer (some ⟨w.heap.size, 4, none⟩)) rfl (by kernel_rfl) (by kernel_rfl) (by kernel_rfl) (by kernel_rfl) (fun _ _ _ h => h) (Or.inl ⟨by rfl, fun V hV => ?_⟩) hHeld ?_
    · go_simp
    simp only [Act.put, List.setIfInBounds_toArray, List.set_cons_succ, List.set_cons_zero]
    refine wpAnyH_takeD (i := 1) (d := 13) (v := .int .i64 f.rg) rfl (by kernel_rfl) (by kernel_rfl) (by kernel_rfl) (by kernel_rfl) (fun _ _ _ h => h) (Or.inl ⟨by rfl, fun V hV => ?_⟩) hHeld ?_
    · have cc : V.cell? ⟨w.heap.size, 4, none⟩ = some (.int .i64 f.rg) := by simp [World.cell?, show V.heap[w.heap.size]? = _ from hV]
      go_simp
    simp only [Act.put, List.setIfInBounds_toArray, List.set_cons_succ, List.set_cons_zero]
    refine wpAnyH_takeD (i := 3) (d := 15) (v := .pointer (some ⟨w.heap.size, 5, none⟩)) rfl (by kernel_rfl) (by kernel_rfl) (by kernel_rfl) (by kernel_rfl) (fun _ _ _ h => h) (Or.inl ⟨by rfl, fun V hV => ?_⟩) hHeld ?_
    · go_simp
    simp only [Act.put, List.setIfInBounds_toArray, List.set_cons_succ, List.set_cons_zero]
    refine wpAnyH_takeD (i := 4) (d := 16) (v := .int .i64 f.sl) rfl (by kernel_rfl) (by kernel_rfl) (by kernel_rfl) (by kernel_rfl) (fun _ _ _ h => h) (Or.inl ⟨by rfl, fun V hV => ?_⟩) hHeld ?_
    · have cc : V.cell? ⟨w.heap.size, 5, none⟩ = some (.int .i64 f.sl) := by simp [World.cell?, show V.heap[w.heap.size]? = _ from hV]
      go_simp
    simp only [Act.put, List.setIfInBounds_toArray, List.set_cons_succ, List.set_cons_zero]
    refine wpAnyH_takeD (i := 6) (d := 18) (v := .pointer (some ⟨w.heap.size, 6, none⟩)) rfl (by kernel_rfl) (by kernel_rfl) (by kernel_rfl) (by kernel_rfl) (fun _ _ _ h => h) (Or.inl ⟨by rfl, fun V hV => ?_⟩) hHeld ?_
    · go_simp
    simp only [Act.put, List.setIfInBounds_toArray, List.set_cons_succ, List.set_cons_zero]
    refine wpAnyH_takeD (i := 7) (d := 19) (v := .slice x1 f.os.length p1) rfl (by kernel_rfl) (by kernel_rfl) (by kernel_rfl) (by kernel_rfl) (fun _ _ _ h => h) (Or.inl ⟨by rfl, fun V hV => ?_⟩) hHeld ?_
    · have cc : V.cell? ⟨w.heap.size, 6, none⟩ = some (.slice x1 f.os.length p1) := by simp [World.cell?, show V.heap[w.heap.size]? = _ from hV]
      go_simp
    simp only [Act.put, List.setIfInBounds_toArray, List.set_cons_succ, List.set_cons_zero]
    refine wpAnyH_takeD (i := 8) (d := 20) (v := .int .i64 f.os.length) rfl (by kernel_rfl) (by kernel_rfl) (by kernel_rfl) (by kernel_rfl) (fun _ _ _ h => h) (Or.inl ⟨by rfl, fun V hV => ?_⟩) hHeld ?_
    · go_simp
    simp only [Act.put, List.setIfInBounds_toArray, List.set_cons_succ, List.set_cons_zero]
    refine wpAnyH_mk (n := 6) (f := 3) AW.drew (fun V hb => (hb.block _ (by show w.heap.size < AW.heap.size; exact blk_in AX.out)).trans AX.out) (fun a => a.eval (.tmp 13) = .int .i64 f.rg ∧ a.eval (.tmp 16) = .int .i64 f.sl ∧ a.eval (.tmp 20) = .int .i64 f.os.length) [⟨2, 14, fun lo hi v W => v = .agg #[.int .i64 0, .int .i64 (f.rg - 1)]⟩, ⟨5, 17, fun lo hi v W => v = .agg #[.int .i64 0, .int .i64 (f.sl - 1)]⟩, ⟨9, 21, fun lo hi v W => v = .agg #[.int .i64 0, .int .i64 ((f.os.length : Int) - 1)]⟩, ⟨10, 7, fun lo hi v W => v = .pointer (some ⟨lo, 0, none⟩) ∧ lo < hi ∧ W.heap[lo]? = some (.cells #[.int .i64 0, .int .i64 0] 147 (0, 0))⟩, ⟨11, 8, fun lo hi v W => v = .pointer (some ⟨lo, 0, none⟩) ∧ lo < hi ∧ W.heap[lo]? = some (.cells #[.int .i64 0, .int .i64 0] 147 (0, 0))⟩, ⟨12, 9, fun lo hi v W => v = .pointer (some ⟨lo, 0, none⟩) ∧ lo < hi ∧ W.heap[lo]? = some (.cells #[.int .i64 0, .int .i64 0] 147 (0, 0))⟩] _ _ _ rfl (by simp) (by simp) (by kernel_rfl) ?ag ?cl (Below.refl _ _) ?mk ?mo ?fin
    case ag => exact ⟨by simp [Act.eval], by simp [Act.eval], by simp [Act.eval]⟩
    case cl =>
      intro a m v ⟨h1, h2, h3⟩ hm
      simp only [List.mem_cons, List.not_mem_nil, or_false] at hm
      rcases hm with rfl | rfl | rfl | rfl | rfl | rfl <;> exact ⟨(eval_put _ _ _ _ (by simp)).trans h1, (eval_put _ _ _ _ (by simp)).trans h2, (eval_put _ _ _ _ (by simp)).trans h3⟩
    case mk =>
      intro m hm
      simp only [List.mem_cons, List.not_mem_nil, or_false] at hm
      rcases hm with rfl | rfl | rfl | rfl | rfl | rfl
      · intro a V K ⟨h1, h2, h3⟩ hb hk
        have ee : a.tmps[13]?.getD undef = .int .i64 f.rg := by have := h1; simpa [Act.eval] using this
        refine wpOp_step rfl (fun K' hK => ?_)
        go_simp
        refine (below_of f.rg hr V).mono ?_
        rintro e V1 ⟨rfl, hb1⟩
        exact hK _ _ (hk _ _ hb1 rfl)
      · intro a V K ⟨h1, h2, h3⟩ hb hk
        have ee : a.tmps[16]?.getD undef = .int .i64 f.sl := by have := h2; simpa [Act.eval] using this
        refine wpOp_step rfl (fun K' hK => ?_)
        go_simp
        refine (below_of f.sl hs V).mono ?_
        rintro e V1 ⟨rfl, hb1⟩
        exact hK _ _ (hk _ _ hb1 rfl)
      · intro a V K ⟨h1, h2, h3⟩ hb hk
        have ee : a.tmps[20]?.getD undef = .int .i64 (f.os.length : Int) := by have := h3; simpa [Act.eval] using this
        refine wpOp_step rfl (fun K' hK => ?_)
        go_simp
        refine (below_of f.os.length hn V).mono ?_
        rintro e V1 ⟨rfl, hb1⟩
        exact hK _ _ (hk _ _ hb1 rfl)
      all_goals
        intro a V K ⟨h1, h2, h3⟩ hb hk
        refine wpOp_step rfl (fun K' hK => ?_)
        clear h1 h2 h3
        go_simp
        exact hK _ _ (hk _ _ ((Below.refl _ _).alloc (Nat.le_refl _) _) ⟨rfl, by simp, heap_alloc_last _ _⟩)
    case mo =>
      intro m hm lo hi v V V' hR hb
      simp only [List.mem_cons, List.not_mem_nil, or_false] at hm
      rcases hm with rfl | rfl | rfl | rfl | rfl | rfl
      · exact hR
      · exact hR
      · exact hR
      all_goals exact ⟨hR.1, hR.2.1, (hb.block _ (blk_in hR.2.2)).trans hR.2.2⟩
    case fin =>
      intro val lo hi V hb hm hdis
      obtain ⟨l2, _, _, r2⟩ := hm _ (.head _)
      obtain ⟨l5, _, _, r5⟩ := hm _ (.tail _ (.head _))
      obtain ⟨l9, _, _, r9⟩ := hm _ (.tail _ (.tail _ (.head _)))
      obtain ⟨l10, _, _, r10⟩ := hm _ (.tail _ (.tail _ (.tail _ (.head _))))
      obtain ⟨l11, _, _, r11⟩ := hm _ (.tail _ (.tail _ (.tail _ (.tail _ (.head _)))))
      obtain ⟨l12, _, _, r12⟩ := hm _ (.tail _ (.tail _ (.tail _ (.tail _ (.tail _ (.head _))))))
      change val 2 = _ at r2
      change val 5 = _ at r5
      change val 9 = _ at r9
      obtain ⟨r10, i10, z10⟩ := r10
      obtain ⟨r11, i11, z11⟩ := r11
      obtain ⟨r12, i12, z12⟩ := r12
      change val 10 = _ at r10
      change val 11 = _ at r11
      change val 12 = _ at r12
      have d1 := hdis _ (.tail _ (.tail _ (.tail _ (.head _)))) _ (.tail _ (.tail _ (.tail _ (.tail _ (.head _))))) (by simp)
      have d2 := hdis _ (.tail _ (.tail _ (.tail _ (.head _)))) _ (.tail _ (.tail _ (.tail _ (.tail _ (.tail _ (.head _)))))) (by simp)
      have d3 := hdis _ (.tail _ (.tail _ (.tail _ (.tail _ (.head _))))) _ (.tail _ (.tail _ (.tail _ (.tail _ (.tail _ (.head _)))))) (by simp)
      clear hm hdis
      simp only at d1 d2 d3 l10 l11 l12 i10 i11 i12 z10 z11 z12
      change AW.heap.size ≤ lo 10 at l10
      change AW.heap.size ≤ lo 11 at l11
      change AW.heap.size ≤ lo 12 at l12
      generalize lo 10 = g7 at *
      generalize lo 11 = g8 at *
      generalize lo 12 = g9 at *
      have n78 : g7 ≠ g8 := by omega
      have n79 : g7 ≠ g9 := by omega
      have n89 : g8 ≠ g9 := by omega
      have sz : w.heap.size + 2 ≤ AW.heap.size := blk_in AY.out
      have FX : V.heap[w.heap.size]? = some (.cells #[.string f.nm, .int .i64 f.wh, .int .i64 f.ce, .int .i64 f.ba, .int .i64 f.rg, .int .i64 f.sl, .slice x1 f.os.length p1, .slice x2 f.ls.length p2] 44 (0, 0)) := (hb.block _ (by show w.heap.size < AW.heap.size; omega)).trans AX.out
      have FY : V.heap[w.heap.size + 1]? = some (.cells #[.int .i64 0, .int .i64 0, .int .i64 0, .int .i64 0, .int .i64 0, .int .i64 0, .int .i64 0, .int .i64 0] 150 (0, 0)) := (hb.block _ (by show w.heap.size + 1 < AW.heap.size; omega)).trans AY.out
      have FB' : Below w.heap.size w V := AB.out.drew.trans (hb.mono (by show w.heap.size ≤ AW.heap.size; omega))
      generalize hL : setAll _ _ = L
      simp only [putAll, List.foldl_cons, List.foldl_nil, r2, r5, r9, r10, r11, r12]
      simp only [Act.put, List.setIfInBounds_toArray, List.set_cons_succ, List.set_cons_zero]
      subst hL
      clear r2 r5 r9 r10 r11 r12 d1 d2 d3 hb hHeld AX AY AB
      refine wpAnyH_ready (rs := [13]) (by kernel_rfl) (by simp) ?_
      refine AllReadyH.cons (o := _) rfl (fun K hK => ?_) AllReadyH.nil
      rw [if_pos (by rfl)]
      refine wp_store_row 147 _ _ rfl g7 _ rfl rfl 147 _ z10 sp_info rfl (by kernel_rfl) ?_
      refine hK.out _ _ ((setRow_other _ _ _ _ (by omega)).trans FX) (fun hHeld => ?_)
      clear hK K
      rw [put_nO (by rfl)]
      refine wpAnyH_ready (rs := [14]) (by kernel_rfl) (by simp) ?_
      refine AllReadyH.cons (o := _) rfl (fun K hK => ?_) AllReadyH.nil
      rw [if_pos (by rfl)]
      refine wp_store_row 147 _ _ rfl g8 _ rfl rfl 147 _ ((setRow_other _ _ _ _ (Ne.symm n78)).trans z11) sp_info rfl (by kernel_rfl) ?_
      refine hK.out _ _ ((setRow_other _ _ _ _ (by omega)).trans ((setRow_other _ _ _ _ (by omega)).trans FX)) (fun hHeld => ?_)
      clear hK K
      rw [put_nO (by rfl)]
      refine wpAnyH_ready (rs := [15]) (by kernel_rfl) (by simp) ?_
      refine AllReadyH.cons (o := _) rfl (fun K hK => ?_) AllReadyH.nil
      rw [if_pos (by rfl)]
      refine wp_store_row 147 _ _ rfl g9 _ rfl rfl 147 _ ((setRow_other _ _ _ _ (Ne.symm n89)).trans ((setRow_other _ _ _ _ (Ne.symm n79)).trans z12)) sp_info rfl (by kernel_rfl) ?_
      refine hK.out _ _ ((setRow_other _ _ _ _ (by omega)).trans ((setRow_other _ _ _ _ (by omega)).trans ((setRow_other _ _ _ _ (by omega)).trans FX))) (fun hHeld => ?_)
      clear hK K
      refine wpAnyH_done (by kernel_rfl) ?_ _
      rw [put_nO (by rfl)]
      refine Met.intro ?_
      go_step
      go_meet
      case rel =>
        refine ⟨g7, g8, g9, rfl, rfl, rfl, ?_, ?_, ?_, ?_, by omega, by omega, by omega, ?_⟩
        · exact (setRow_other _ _ _ _ n79).trans ((setRow_other _ _ _ _ n78).trans (setRow_heap _ _ _ _ _ _ z10))
        · exact (setRow_other _ _ _ _ n89).trans (setRow_heap _ _ _ _ _ _ ((setRow_other _ _ _ _ (Ne.symm n78)).trans z11))
        · exact setRow_heap _ _ _ _ _ _ ((setRow_other _ _ _ _ (Ne.symm n89)).trans ((setRow_other _ _ _ _ (Ne.symm n79)).trans z12))
        · exact row_bel (row_bel (row_bel FB' (by omega) _) (by omega) _) (by omega) _
        · exact (setRow_other _ _ _ _ (by omega)).trans ((setRow_other _ _ _ _ (by omega)).trans ((setRow_other _ _ _ _ (by omega)).trans FY))
  case rest =>
    obtain ⟨g7, g8, g9, rfl, rfl, rfl, z7, z8, z9, hb, l7, l8, l9, zr⟩ := hcut
    clear AX AY AB
    have BW : Hid (Below w.heap.size w wc) := hb
    have G2 : Hid (∀ X Y : Obj, Below wc.heap.size wc ((wc.alloc X).alloc Y)) := fun X Y => ((Below.refl _ _).alloc (Nat.le_refl _) _).alloc (by simp) _
    have ZZ : Hid (∀ X Y : Obj, ((wc.alloc X).alloc Y).heap[w.heap.size + 1]? = some (.cells #[.int .i64 0, .int .i64 0, .int .i64 0, .int .i64 0, .int .i64 0, .int .i64 0, .int .i64 0, .int .i64 0] 150 (0, 0))) := fun X Y => ((G2.out X Y).block _ (blk_in zr)).trans zr
    have c70 : ∀ X Y : Obj, ((wc.alloc X).alloc Y).cell? ⟨g7, 0, none⟩ = some (.int .i64 0) := fun X Y => ((G2.out X Y).cell (p := ⟨g7, 0, none⟩) (blk_in z7)).trans (by simp [World.cell?, z7])
    have c71 : ∀ X Y : Obj, ((wc.alloc X).alloc Y).cell? ⟨g7, 1, none⟩ = some (.int .i64 (f.rg - 1)) := fun X Y => ((G2.out X Y).cell (p := ⟨g7, 1, none⟩) (blk_in z7)).trans (by simp [World.cell?, z7])
    have c80 : ∀ X Y : Obj, ((wc.alloc X).alloc Y).cell? ⟨g8, 0, none⟩ = some (.int .i64 0) := fun X Y => ((G2.out X Y).cell (p := ⟨g8, 0, none⟩) (blk_in z8)).trans (by simp [World.cell?, z8])
    have c81 : ∀ X Y : Obj, ((wc.alloc X).alloc Y).cell? ⟨g8, 1, none⟩ = some (.int .i64 (f.sl - 1)) := fun X Y => ((G2.out X Y).cell (p := ⟨g8, 1, none⟩) (blk_in z8)).trans (by simp [World.cell?, z8])
    have c90 : ∀ X Y : Obj, ((wc.alloc X).alloc Y).cell? ⟨g9, 0, none⟩ = some (.int .i64 0) := fun X Y => ((G2.out X Y).cell (p := ⟨g9, 0, none⟩) (blk_in z9)).trans (by simp [World.cell?, z9])
    have c91 : ∀ X Y : Obj, ((wc.alloc X).alloc Y).cell? ⟨g9, 1, none⟩ = some (.int .i64 ((f.os.length : Int) - 1)) := fun X Y => ((G2.out X Y).cell (p := ⟨g9, 1, none⟩) (blk_in z9)).trans (by simp [World.cell?, z9])
    clear hb z7 z8 z9 hr hs hn
    rcases codes23 cd hc with rfl | rfl | rfl | rfl | rfl | rfl | rfl | rfl | rfl | rfl | rfl | rfl | rfl | rfl | rfl | rfl | rfl | rfl | rfl | rfl | rfl | rfl | rfl
    all_goals clear hc
    · go_wp2_with (refine wpList_store_row rfl 150 _ _ rfl (w.heap.size + 1) _ rfl rfl _ _ (ZZ.out _ _) ar_info rfl (by kernel_rfl) ?_)
      refine bodyPost_ret (v := .agg #[.int .i64 0, .int .i64 (f.rg - 1), .int .i64 0, .int .i64 0, .int .i64 0, .int .i64 0, .int .i64 0, .int .i64 0]) (results_cell_row Tryz.results95 _ _ (w.heap.size + 1) _ _ (0, 0) _ (by first | rfl | simp [Act.put]) (setRow_heap _ _ _ _ _ _ (ZZ.out _ _)) Tryz.underlying150 rfl ar_info) rfl ?_
      exact ⟨by rfl, row_bel (BW.out.trans ((G2.out _ _).mono BW.out.size)) (by omega) _⟩
    · go_wp2_with (refine wpList_store_row rfl 150 _ _ rfl (w.heap.size + 1) _ rfl rfl _ _ (ZZ.out _ _) ar_info rfl (by kernel_rfl) ?_)
      refine bodyPost_ret (v := .agg #[.int .i64 0, .int .i64 (f.rg - 1), .int .i64 0, .int .i64 (f.rg - 1), .int .i64 0, .int .i64 0, .int .i64 0, .int .i64 0]) (results_cell_row Tryz.results95 _ _ (w.heap.size + 1) _ _ (0, 0) _ (by first | rfl | simp [Act.put]) (setRow_heap _ _ _ _ _ _ (ZZ.out _ _)) Tryz.underlying150 rfl ar_info) rfl ?_
      exact ⟨by rfl, row_bel (BW.out.trans ((G2.out _ _).mono BW.out.size)) (by omega) _⟩
    · go_wp2_with (refine wpList_store_row rfl 150 _ _ rfl (w.heap.size + 1) _ rfl rfl _ _ (ZZ.out _ _) ar_info rfl (by kernel_rfl) ?_)
      refine bodyPost_ret (v := .agg #[.int .i64 0, .int .i64 (f.rg - 1), .int .i64 1, .int .i64 3, .int .i64 0, .int .i64 4096, .int .i64 0, .int .i64 0]) (results_cell_row Tryz.results95 _ _ (w.heap.size + 1) _ _ (0, 0) _ (by first | rfl | simp [Act.put]) (setRow_heap _ _ _ _ _ _ (ZZ.out _ _)) Tryz.underlying150 rfl ar_info) rfl ?_
      exact ⟨by rfl, row_bel (BW.out.trans ((G2.out _ _).mono BW.out.size)) (by omega) _⟩
    · go_wp2_with (refine wpList_store_row rfl 150 _ _ rfl (w.heap.size + 1) _ rfl rfl _ _ (ZZ.out _ _) ar_info rfl (by kernel_rfl) ?_)
      refine bodyPost_ret (v := .agg #[.int .i64 0, .int .i64 (f.rg - 1), .int .i64 1, .int .i64 3, .int .i64 0, .int .i64 4096, .int .i64 0, .int .i64 0]) (results_cell_row Tryz.results95 _ _ (w.heap.size + 1) _ _ (0, 0) _ (by first | rfl | simp [Act.put]) (setRow_heap _ _ _ _ _ _ (ZZ.out _ _)) Tryz.underlying150 rfl ar_info) rfl ?_
      exact ⟨by rfl, row_bel (BW.out.trans ((G2.out _ _).mono BW.out.size)) (by omega) _⟩
    · go_wp2_with (refine wpList_store_row rfl 150 _ _ rfl (w.heap.size + 1) _ rfl rfl _ _ (ZZ.out _ _) ar_info rfl (by kernel_rfl) ?_)
      refine bodyPost_ret (v := .agg #[.int .i64 0, .int .i64 (f.rg - 1), .int .i64 1, .int .i64 3, .int .i64 0, .int .i64 4096, .int .i64 0, .int .i64 (f.rg - 1)]) (results_cell_row Tryz.results95 _ _ (w.heap.size + 1) _ _ (0, 0) _ (by first | rfl | simp [Act.put]) (setRow_heap _ _ _ _ _ _ (ZZ.out _ _)) Tryz.underlying150 rfl ar_info) rfl ?_
      exact ⟨by rfl, row_bel (BW.out.trans ((G2.out _ _).mono BW.out.size)) (by omega) _⟩
    · go_wp2_with (refine wpList_store_row rfl 150 _ _ rfl (w.heap.size + 1) _ rfl rfl _ _ (ZZ.out _ _) ar_info rfl (by kernel_rfl) ?_)
      refine bodyPost_ret (v := .agg #[.int .i64 0, .int .i64 (f.rg - 1), .int .i64 1, .int .i64 3, .int .i64 0, .int .i64 4096, .int .i64 0, .int .i64 (f.rg - 1)]) (results_cell_row Tryz.results95 _ _ (w.heap.size + 1) _ _ (0, 0) _ (by first | rfl | simp [Act.put]) (setRow_heap _ _ _ _ _ _ (ZZ.out _ _)) Tryz.underlying150 rfl ar_info) rfl ?_
      exact ⟨by rfl, row_bel (BW.out.trans ((G2.out _ _).mono BW.out.size)) (by omega) _⟩
    · go_wp2_with (refine wpList_store_row rfl 150 _ _ rfl (w.heap.size + 1) _ rfl rfl _ _ (ZZ.out _ _) ar_info rfl (by kernel_rfl) ?_)
      refine bodyPost_ret (v := .agg #[.int .i64 0, .int .i64 (f.rg - 1), .int .i64 1, .int .i64 3, .int .i64 0, .int .i64 4096, .int .i64 0, .int .i64 0]) (results_cell_row Tryz.results95 _ _ (w.heap.size + 1) _ _ (0, 0) _ (by first | rfl | simp [Act.put]) (setRow_heap _ _ _ _ _ _ (ZZ.out _ _)) Tryz.underlying150 rfl ar_info) rfl ?_
      exact ⟨by rfl, row_bel (BW.out.trans ((G2.out _ _).mono BW.out.size)) (by omega) _⟩
    · go_wp2_with (refine wpList_store_row rfl 150 _ _ rfl (w.heap.size + 1) _ rfl rfl _ _ (ZZ.out _ _) ar_info rfl (by kernel_rfl) ?_)
      refine bodyPost_ret (v := .agg #[.int .i64 0, .int .i64 (f.rg - 1), .int .i64 1, .int .i64 3, .int .i64 0, .int .i64 4096, .int .i64 0, .int .i64 (f.rg - 1)]) (results_cell_row Tryz.results95 _ _ (w.heap.size + 1) _ _ (0, 0) _ (by first | rfl | simp [Act.put]) (setRow_heap _ _ _ _ _ _ (ZZ.out _ _)) Tryz.underlying150 rfl ar_info) rfl ?_
      exact ⟨by rfl, row_bel (BW.out.trans ((G2.out _ _).mono BW.out.size)) (by omega) _⟩
    · go_wp2_with (refine wpList_store_row rfl 150 _ _ rfl (w.heap.size + 1) _ rfl rfl _ _ (ZZ.out _ _) ar_info rfl (by kernel_rfl) ?_)
      refine bodyPost_ret (v := .agg #[.int .i64 0, .int .i64 (f.rg - 1), .int .i64 0, .int .i64 (f.rg - 1), .int .i64 0, .int .i64 (f.rg - 1), .int .i64 1, .int .i64 14]) (results_cell_row Tryz.results95 _ _ (w.heap.size + 1) _ _ (0, 0) _ (by first | rfl | simp [Act.put]) (setRow_heap _ _ _ _ _ _ (ZZ.out _ _)) Tryz.underlying150 rfl ar_info) rfl ?_
      exact ⟨by rfl, row_bel (BW.out.trans ((G2.out _ _).mono BW.out.size)) (by omega) _⟩
    · go_wp2_with (refine wpList_store_row rfl 150 _ _ rfl (w.heap.size + 1) _ rfl rfl _ _ (ZZ.out _ _) ar_info rfl (by kernel_rfl) ?_)
      refine bodyPost_ret (v := .agg #[.int .i64 0, .int .i64 (f.rg - 1), .int .i64 0, .int .i64 (f.rg - 1), .int .i64 0, .int .i64 0, .int .i64 15, .int .i64 16]) (results_cell_row Tryz.results95 _ _ (w.heap.size + 1) _ _ (0, 0) _ (by first | rfl | simp [Act.put]) (setRow_heap _ _ _ _ _ _ (ZZ.out _ _)) Tryz.underlying150 rfl ar_info) rfl ?_
      exact ⟨by rfl, row_bel (BW.out.trans ((G2.out _ _).mono BW.out.size)) (by omega) _⟩
    · go_wp2_with (refine wpList_store_row rfl 150 _ _ rfl (w.heap.size + 1) _ rfl rfl _ _ (ZZ.out _ _) ar_info rfl (by kernel_rfl) ?_)
      refine bodyPost_ret (v := .agg #[.int .i64 0, .int .i64 (f.rg - 1), .int .i64 0, .int .i64 (f.rg - 1), .int .i64 0, .int .i64 0, .int .i64 1, .int .i64 19]) (results_cell_row Tryz.results95 _ _ (w.heap.size + 1) _ _ (0, 0) _ (by first | rfl | simp [Act.put]) (setRow_heap _ _ _ _ _ _ (ZZ.out _ _)) Tryz.underlying150 rfl ar_info) rfl ?_
      exact ⟨by rfl, row_bel (BW.out.trans ((G2.out _ _).mono BW.out.size)) (by omega) _⟩
    · go_wp2_with (refine wpList_store_row rfl 150 _ _ rfl (w.heap.size + 1) _ rfl rfl _ _ (ZZ.out _ _) ar_info rfl (by kernel_rfl) ?_)
      refine bodyPost_ret (v := .agg #[.int .i64 0, .int .i64 (f.rg - 1), .int .i64 0, .int .i64 0, .int .i64 0, .int .i64 0, .int .i64 0, .int .i64 0]) (results_cell_row Tryz.results95 _ _ (w.heap.size + 1) _ _ (0, 0) _ (by first | rfl | simp [Act.put]) (setRow_heap _ _ _ _ _ _ (ZZ.out _ _)) Tryz.underlying150 rfl ar_info) rfl ?_
      exact ⟨by rfl, row_bel (BW.out.trans ((G2.out _ _).mono BW.out.size)) (by omega) _⟩
    · go_wp2_with (refine wpList_store_row rfl 150 _ _ rfl (w.heap.size + 1) _ rfl rfl _ _ (ZZ.out _ _) ar_info rfl (by kernel_rfl) ?_)
      refine bodyPost_ret (v := .agg #[.int .i64 0, .int .i64 (f.rg - 1), .int .i64 0, .int .i64 0, .int .i64 0, .int .i64 16, .int .i64 0, .int .i64 255]) (results_cell_row Tryz.results95 _ _ (w.heap.size + 1) _ _ (0, 0) _ (by first | rfl | simp [Act.put]) (setRow_heap _ _ _ _ _ _ (ZZ.out _ _)) Tryz.underlying150 rfl ar_info) rfl ?_
      exact ⟨by rfl, row_bel (BW.out.trans ((G2.out _ _).mono BW.out.size)) (by omega) _⟩
    · go_wp2_with (refine wpList_store_row rfl 150 _ _ rfl (w.heap.size + 1) _ rfl rfl _ _ (ZZ.out _ _) ar_info rfl (by kernel_rfl) ?_)
      refine bodyPost_ret (v := .agg #[.int .i64 0, .int .i64 (f.rg - 1), .int .i64 0, .int .i64 0, .int .i64 0, .int .i64 0, .int .i64 0, .int .i64 0]) (results_cell_row Tryz.results95 _ _ (w.heap.size + 1) _ _ (0, 0) _ (by first | rfl | simp [Act.put]) (setRow_heap _ _ _ _ _ _ (ZZ.out _ _)) Tryz.underlying150 rfl ar_info) rfl ?_
      exact ⟨by rfl, row_bel (BW.out.trans ((G2.out _ _).mono BW.out.size)) (by omega) _⟩
    · go_wp2_with (refine wpList_store_row rfl 150 _ _ rfl (w.heap.size + 1) _ rfl rfl _ _ (ZZ.out _ _) ar_info rfl (by kernel_rfl) ?_)
      refine bodyPost_ret (v := .agg #[.int .i64 0, .int .i64 (f.rg - 1), .int .i64 0, .int .i64 0, .int .i64 0, .int .i64 0, .int .i64 0, .int .i64 0]) (results_cell_row Tryz.results95 _ _ (w.heap.size + 1) _ _ (0, 0) _ (by first | rfl | simp [Act.put]) (setRow_heap _ _ _ _ _ _ (ZZ.out _ _)) Tryz.underlying150 rfl ar_info) rfl ?_
      exact ⟨by rfl, row_bel (BW.out.trans ((G2.out _ _).mono BW.out.size)) (by omega) _⟩
    · go_wp2_with (refine wpList_store_row rfl 150 _ _ rfl (w.heap.size + 1) _ rfl rfl _ _ (ZZ.out _ _) ar_info rfl (by kernel_rfl) ?_)
      refine bodyPost_ret (v := .agg #[.int .i64 0, .int .i64 0, .int .i64 0, .int .i64 ((f.os.length : Int) - 1), .int .i64 0, .int .i64 0, .int .i64 0, .int .i64 0]) (results_cell_row Tryz.results95 _ _ (w.heap.size + 1) _ _ (0, 0) _ (by first | rfl | simp [Act.put]) (setRow_heap _ _ _ _ _ _ (ZZ.out _ _)) Tryz.underlying150 rfl ar_info) rfl ?_
      exact ⟨by rfl, row_bel (BW.out.trans ((G2.out _ _).mono BW.out.size)) (by omega) _⟩
    · go_wp2_with (refine wpList_store_row rfl 150 _ _ rfl (w.heap.size + 1) _ rfl rfl _ _ (ZZ.out _ _) ar_info rfl (by kernel_rfl) ?_)
      refine bodyPost_ret (v := .agg #[.int .i64 0, .int .i64 (f.rg - 1), .int .i64 0, .int .i64 ((f.os.length : Int) - 1), .int .i64 0, .int .i64 0, .int .i64 0, .int .i64 0]) (results_cell_row Tryz.results95 _ _ (w.heap.size + 1) _ _ (0, 0) _ (by first | rfl | simp [Act.put]) (setRow_heap _ _ _ _ _ _ (ZZ.out _ _)) Tryz.underlying150 rfl ar_info) rfl ?_
      exact ⟨by rfl, row_bel (BW.out.trans ((G2.out _ _).mono BW.out.size)) (by omega) _⟩
    · go_wp2_with fail
      obtain ⟨WA, eA⟩ : ∃ W, W = (wc.alloc (.cells #[.int .i64 1, .int .i64 3] 147 (0, 0))).alloc (.cells #[.int .i64 0, .int .i64 4096] 147 (0, 0)) := ⟨_, rfl⟩
      have XA : WA.heap[wc.heap.size]? = some (.cells #[.int .i64 1, .int .i64 3] 147 (0, 0)) := by rw [eA]; exact (tv_at wc _ _).1
      have XC : WA.heap[wc.heap.size + 1]? = some (.cells #[.int .i64 0, .int .i64 4096] 147 (0, 0)) := by rw [eA]; exact (tv_at wc _ _).2
      have XZ : WA.heap[w.heap.size + 1]? = some (.cells #[.int .i64 0, .int .i64 0, .int .i64 0, .int .i64 0, .int .i64 0, .int .i64 0, .int .i64 0, .int .i64 0] 150 (0, 0)) := by rw [eA]; exact ZZ.out _ _
      have XB : Below wc.heap.size wc WA := by rw [eA]; exact G2.out _ _
      rw [← eA]
      clear eA
      refine wp_region_held_drew (S := fun V => V.heap[wc.heap.size]? = some (.cells #[.int .i64 1, .int .i64 3] 147 (0, 0)) ∧ V.heap[wc.heap.size + 1]? = some (.cells #[.int .i64 0, .int .i64 4096] 147 (0, 0))) (by kernel_rfl) ⟨XA, XC⟩ (fun hHeld => ?_)
      refine wpAnyH_takeD (i := 0) (d := 94) (v := .agg #[.int .i64 0, .int .i64 0]) rfl (by kernel_rfl) (by kernel_rfl) (by kernel_rfl) (by kernel_rfl) (fun _ _ _ h => h) (Or.inl ⟨by rfl, fun V hV => ?_⟩) hHeld ?_
      · go_simp
      simp only [Act.put, List.setIfInBounds_toArray, List.set_cons_succ, List.set_cons_zero]
      refine wpAnyH_takeD (i := 1) (d := 95) (v := .int .i64 cs) rfl (by kernel_rfl) (by kernel_rfl) (by kernel_rfl) (by kernel_rfl) (fun _ _ _ h => h) (Or.inl ⟨by rfl, fun V hV => ?_⟩) hHeld ?_
      · go_simp
      simp only [Act.put, List.setIfInBounds_toArray, List.set_cons_succ, List.set_cons_zero]
      refine wpAnyH_takeD (i := 3) (d := 97) (v := .agg #[.int .i64 1, .int .i64 3]) rfl (by kernel_rfl) (by kernel_rfl) (by kernel_rfl) (by kernel_rfl) (fun _ _ _ h => h) (Or.inl ⟨by rfl, fun V hV => ?_⟩) hHeld ?_
      · have m0 : V.cell? ⟨wc.heap.size, 0, none⟩ = some (.int .i64 1) := by simp [World.cell?, hV.1]
        have m1 : V.cell? ⟨wc.heap.size, 1, none⟩ = some (.int .i64 3) := by simp [World.cell?, hV.1]
        go_simp
      simp only [Act.put, List.setIfInBounds_toArray, List.set_cons_succ, List.set_cons_zero]
      refine wpAnyH_takeD (i := 4) (d := 98) (v := .agg #[.int .i64 0, .int .i64 4096]) rfl (by kernel_rfl) (by kernel_rfl) (by kernel_rfl) (by kernel_rfl) (fun _ _ _ h => h) (Or.inl ⟨by rfl, fun V hV => ?_⟩) hHeld ?_
      · have m0 : V.cell? ⟨wc.heap.size + 1, 0, none⟩ = some (.int .i64 0) := by simp [World.cell?, hV.2]
        have m1 : V.cell? ⟨wc.heap.size + 1, 1, none⟩ = some (.int .i64 4096) := by simp [World.cell?, hV.2]
        go_simp
      simp only [Act.put, List.setIfInBounds_toArray, List.set_cons_succ, List.set_cons_zero]
      refine wpAnyH_ready (rs := [2]) (by kernel_rfl) (by simp) ?_
      refine AllReadyH.cons (o := _) rfl (fun K hK => ?_) AllReadyH.nil
      go_simp
      refine (below_of cs hq _).mono ?_
      rintro e w5 ⟨rfl, hb5⟩
      have X5 := (hb5.block wc.heap.size (blk_in XA)).trans XA
      have Y5 := (hb5.block (wc.heap.size + 1) (blk_in XC)).trans XC
      have Z5 := (hb5.block (w.heap.size + 1) (blk_in XZ)).trans XZ
      have B5 : Below wc.heap.size wc w5 := XB.drew.trans (hb5.mono XB.size)
      refine hK.out _ _ ⟨X5, Y5⟩ (fun hHeld => ?_)
      clear hK K hb5
      refine wpAnyH_ready (rs := [5]) (by kernel_rfl) (by simp) ?_
      refine AllReadyH.cons (o := _) rfl (fun K hK => ?_) AllReadyH.nil
      go_simp
      refine hK.out _ _ ⟨X5, Y5⟩ (fun hHeld => ?_)
      clear hK K
      refine wpAnyH_ready (rs := [6]) (by kernel_rfl) (by simp) ?_
      refine AllReadyH.cons (o := _) rfl (fun K hK => ?_) AllReadyH.nil
      rw [if_pos (by rfl)]
      refine wp_store_row 150 _ _ rfl (w.heap.size + 1) _ rfl rfl 150 _ Z5 ar_info rfl (by kernel_rfl) ?_
      have s5 := B5.size
      have s6 := BW.out.size
      refine hK.out _ _ ⟨(setRow_other _ _ _ _ (by have := blk_in zr; omega)).trans X5, (setRow_other _ _ _ _ (by have := blk_in zr; omega)).trans Y5⟩ (fun hHeld => ?_)
      clear hK K
      refine wpAnyH_done (by kernel_rfl) ?_ _
      rw [put_nO (by rfl)]
      go_step
      go_wp2
      refine bodyPost_ret (v := .agg #[.int .i64 0, .int .i64 0, .int .i64 0, .int .i64 (cs - 1), .int .i64 1, .int .i64 3, .int .i64 0, .int .i64 4096]) (results_cell_row Tryz.results95 _ _ (w.heap.size + 1) _ _ (0, 0) _ (by first | rfl | simp [Act.put]) (setRow_heap _ _ _ _ _ _ Z5) Tryz.underlying150 rfl ar_info) rfl ?_
      exact ⟨by rfl, row_bel (BW.out.trans (B5.mono BW.out.size)) (by omega) _⟩
    · go_wp2_with (refine wpList_store_row rfl 150 _ _ rfl (w.heap.size + 1) _ rfl rfl _ _ (ZZ.out _ _) ar_info rfl (by kernel_rfl) ?_)
      refine bodyPost_ret (v := .agg #[.int .i64 0, .int .i64 0, .int .i64 1, .int .i64 10, .int .i64 1, .int .i64 3, .int .i64 0, .int .i64 4096]) (results_cell_row Tryz.results95 _ _ (w.heap.size + 1) _ _ (0, 0) _ (by first | rfl | simp [Act.put]) (setRow_heap _ _ _ _ _ _ (ZZ.out _ _)) Tryz.underlying150 rfl ar_info) rfl ?_
      exact ⟨by rfl, row_bel (BW.out.trans ((G2.out _ _).mono BW.out.size)) (by omega) _⟩
    · go_wp2_with (refine wpList_store_row rfl 150 _ _ rfl (w.heap.size + 1) _ rfl rfl _ _ (ZZ.out _ _) ar_info rfl (by kernel_rfl) ?_)
      refine bodyPost_ret (v := .agg #[.int .i64 1, .int .i64 10, .int .i64 0, .int .i64 0, .int .i64 0, .int .i64 0, .int .i64 0, .int .i64 0]) (results_cell_row Tryz.results95 _ _ (w.heap.size + 1) _ _ (0, 0) _ (by first | rfl | simp [Act.put]) (setRow_heap _ _ _ _ _ _ (ZZ.out _ _)) Tryz.underlying150 rfl ar_info) rfl ?_
      exact ⟨by rfl, row_bel (BW.out.trans ((G2.out _ _).mono BW.out.size)) (by omega) _⟩
    · go_wp2_with (refine wpList_store_row rfl 150 _ _ rfl (w.heap.size + 1) _ rfl rfl _ _ (ZZ.out _ _) ar_info rfl (by kernel_rfl) ?_)
      refine bodyPost_ret (v := .agg #[.int .i64 0, .int .i64 0, .int .i64 0, .int .i64 0, .int .i64 0, .int .i64 0, .int .i64 0, .int .i64 0]) (results_cell_row Tryz.results95 _ _ (w.heap.size + 1) _ _ (0, 0) _ (by first | rfl | simp [Act.put]) (setRow_heap _ _ _ _ _ _ (ZZ.out _ _)) Tryz.underlying150 rfl ar_info) rfl ?_
      exact ⟨by rfl, row_bel (BW.out.trans ((G2.out _ _).mono BW.out.size)) (by omega) _⟩
    · go_wp2_with (refine wpList_store_row rfl 150 _ _ rfl (w.heap.size + 1) _ rfl rfl _ _ (ZZ.out _ _) ar_info rfl (by kernel_rfl) ?_)
      refine bodyPost_ret (v := .agg #[.int .i64 0, .int .i64 (f.rg - 1), .int .i64 0, .int .i64 (f.sl - 1), .int .i64 0, .int .i64 0, .int .i64 0, .int .i64 0]) (results_cell_row Tryz.results95 _ _ (w.heap.size + 1) _ _ (0, 0) _ (by first | rfl | simp [Act.put]) (setRow_heap _ _ _ _ _ _ (ZZ.out _ _)) Tryz.underlying150 rfl ar_info) rfl ?_
      exact ⟨by rfl, row_bel (BW.out.trans ((G2.out _ _).mono BW.out.size)) (by omega) _⟩
    · go_wp2_with (refine wpList_store_row rfl 150 _ _ rfl (w.heap.size + 1) _ rfl rfl _ _ (ZZ.out _ _) ar_info rfl (by kernel_rfl) ?_)
      refine bodyPost_ret (v := .agg #[.int .i64 0, .int .i64 (f.rg - 1), .int .i64 0, .int .i64 (f.sl - 1), .int .i64 0, .int .i64 0, .int .i64 0, .int .i64 0]) (results_cell_row Tryz.results95 _ _ (w.heap.size + 1) _ _ (0, 0) _ (by first | rfl | simp [Act.put]) (setRow_heap _ _ _ _ _ _ (ZZ.out _ _)) Tryz.underlying150 rfl ar_info) rfl ?_
      exact ⟨by rfl, row_bel (BW.out.trans ((G2.out _ _).mono BW.out.size)) (by omega) _⟩
end Go.Proofs.YtdcjngakmkgbmaaGreat
