/- A resource of an image without anything is made; no statement of the seat is proved here. -/
import Derived.Test.YtoiipiapgidbiaaGreatDoorSnF
import Derived.Test.YtoiipiapgidbiaaGreatDoorMkR
import Derived.Deep.Cut
import Derived.Deep.DeepCutAuto
namespace Go.Proofs.YtoiipiapgidbiaaGreatDoor
set_option linter.unusedVariables false
set_option linter.unusedSimpArgs false
open Go.RowKit
theorem ev_put (a : Act) (d j : Nat) (v : Value) (h : d ≠ j) : (a.put (some d) v).eval (.tmp j) = a.eval (.tmp j) := by
  simp [Act.eval, Act.put, h]
theorem put_nS {a : Act} {d : Option Tmp} {v : Value} (h : d = none) : a.put d v = a := by subst h; rfl
theorem mk0 (w : World) : (Instr.makeSlice 54 (.int .i64 0) (.int .i64 0)).run Tryz.prog w = .ok (.slice (some ⟨w.heap.size, 0, none⟩) 0 0) (w.alloc (.cells #[] 25)) := by kernel_rfl
set_option maxRecDepth 20000 in
theorem start_E (w : World) : Calls Tryz.prog 44 #[.slice none 0 0] w fun e w' => (∃ y, e = .returned (.slice y 0 0)) ∧ Below w.heap.size w w' := by
  go_enter Tryz.func44, Tryz.ntmps44
  have mk := mk0
  go_upto_region 2 with fail
  obtain ⟨AW, eW⟩ : ∃ AW, AW = w.alloc (.cells #[] 25) := ⟨_, rfl⟩
  have AB : Hid (Below w.heap.size w AW) := by rw [eW]; exact elB _ _
  try rw [← eW]
  clear eW
  go_upto_region 3 with fail
  go_loopw [11] (fun i wr => i = .int .i64 0 ∧ wr = AW) (fun _ _ => 0)
  case atStart => exact ⟨rfl, rfl⟩
  case round =>
    obtain ⟨rfl, rfl⟩ := hrel
    go_wp2
    go_ret
    exact ⟨⟨_, rfl⟩, AB.out⟩
set_option maxRecDepth 20000 in
theorem commit_E (g : Nat) (c1 c2 c3 c4 c5 c6 c7 c8 : Value) (w : World) (hg : w.heap[g]? = some (.cells #[.slice none 0 0, c1, c2, c3, c4, c5, c6, c7, c8] 80 (0, 0))) :
    Calls Tryz.prog 45 #[.pointer (some ⟨g, 0, none⟩)] w fun e w' => e = .returned (.tuple #[]) ∧ w' = w.setCell ⟨g, 4, none⟩ (.slice none 0 0) := by
  have c0 : w.cell? ⟨g, 0, none⟩ = some (.slice none 0 0) := by simp [World.cell?, hg]
  have c4' : w.cell? ⟨g, 4, none⟩ = some c4 := by simp [World.cell?, hg]
  have fz : w.frozen? ⟨g, 4, none⟩ = false := by simp [World.frozen?, hg]
  go_enter Tryz.func45, Tryz.ntmps45
  go_upto_region 1 with fail
  have d0 : (w.setCell ⟨g, 4, none⟩ (.slice none 0 0)).cell? ⟨g, 0, none⟩ = some (.slice none 0 0) := (World.cell?_setCell_other _ _ _ _ (by simp)).trans c0
  generalize hW : w.setCell ⟨g, 4, none⟩ (.slice none 0 0) = W at *
  clear hg c0 c4' fz
  go_upto_region 2 with fail
  go_loopw [12] (fun i wr => i = .int .i64 0 ∧ wr = W) (fun _ _ => 0)
  case atStart => exact ⟨rfl, rfl⟩
  case round =>
    obtain ⟨rfl, rfl⟩ := hrel
    go_wp2
    go_end0
    exact ⟨rfl, hW.symm⟩
theorem pointS (w : World) {g : Nat} {v : Value} {t : TypeId} (h : w.heap[g]? = some (.cells #[v] t (0, 0))) : w.cell? ⟨g, 0, none⟩ = some v ∧ w.frozen? ⟨g, 0, none⟩ = false := by
  exact ⟨by simp [World.cell?, h], by simp [World.frozen?, h]⟩
set_option maxRecDepth 20000 in
set_option maxHeartbeats 4000000 in
theorem machine_E (w : World) : Calls Tryz.prog 50 #[.agg mE] w fun e w' => (∃ a b, e = .returned (.func (.func 71) #[] #[a, b])) ∧ Below w.heap.size w w' := by
  obtain ⟨AW, eW⟩ : ∃ AW, AW = w.alloc (.cells mE 73 (0, 0)) := ⟨_, rfl⟩
  have AX : Hid (AW.heap[w.heap.size]? = some (.cells mE 73 (0, 0))) := by rw [eW]; exact heap_alloc_last _ _
  have AB : Hid (Below w.heap.size w AW) := by rw [eW]; exact elB _ _
  go_enter Tryz.func50, Tryz.ntmps50
  go_upto_region 1 with fail
  rw [← eW]
  clear eW
  go_cut [3, 4] (fun s3 s4 wx => ∃ g3 g4, s3 = .pointer (some ⟨g3, 0, none⟩) ∧ s4 = .pointer (some ⟨g4, 0, none⟩) ∧ wx.heap[g3]? = some (.cells #[.slice none 0 0] 70 (0, 0)) ∧ Below w.heap.size w wx)
  case first =>
    refine wp_region_held_drew (S := fun V => V.heap[w.heap.size]? = some (.cells mE 73 (0, 0))) (by kernel_rfl) AX.out (fun hHeld => ?_)
    refine wpAnyH_takeD (i := 0) (d := 7) (v := .pointer (some ⟨w.heap.size, 2, none⟩)) rfl (by kernel_rfl) (by kernel_rfl) (by kernel_rfl) (by kernel_rfl) (fun _ _ _ h => h) (Or.inl ⟨by rfl, fun V hV => ?_⟩) hHeld ?_
    · go_simp
    simp only [Act.put, List.setIfInBounds_toArray, List.set_cons_succ, List.set_cons_zero]
    refine wpAnyH_takeD (i := 1) (d := 8) (v := .slice none 0 0) rfl (by kernel_rfl) (by kernel_rfl) (by kernel_rfl) (by kernel_rfl) (fun _ _ _ h => h) (Or.inl ⟨by rfl, fun V hV => ?_⟩) hHeld ?_
    · have cc : V.cell? ⟨w.heap.size, 2, none⟩ = some (.slice none 0 0) := by simp [World.cell?, show V.heap[w.heap.size]? = _ from hV]
      go_simp
    simp only [Act.put, List.setIfInBounds_toArray, List.set_cons_succ, List.set_cons_zero]
    refine wpAnyH_takeD (i := 3) (d := 10) (v := .pointer (some ⟨w.heap.size, 1, none⟩)) rfl (by kernel_rfl) (by kernel_rfl) (by kernel_rfl) (by kernel_rfl) (fun _ _ _ h => h) (Or.inl ⟨by rfl, fun V hV => ?_⟩) hHeld ?_
    · go_simp
    simp only [Act.put, List.setIfInBounds_toArray, List.set_cons_succ, List.set_cons_zero]
    refine wpAnyH_takeD (i := 4) (d := 11) (v := .slice none 0 0) rfl (by kernel_rfl) (by kernel_rfl) (by kernel_rfl) (by kernel_rfl) (fun _ _ _ h => h) (Or.inl ⟨by rfl, fun V hV => ?_⟩) hHeld ?_
    · have cc : V.cell? ⟨w.heap.size, 1, none⟩ = some (.slice none 0 0) := by simp [World.cell?, show V.heap[w.heap.size]? = _ from hV]
      go_simp
    simp only [Act.put, List.setIfInBounds_toArray, List.set_cons_succ, List.set_cons_zero]
    refine wpAnyH_mk (n := 4) (f := 2) AW.drew (fun V hb => (hb.block _ (by show w.heap.size < AW.heap.size; exact blk_in2 AX.out)).trans AX.out) (fun a => a.eval (.tmp 8) = .slice none 0 0 ∧ a.eval (.tmp 11) = .slice none 0 0) [⟨2, 9, fun lo hi v W => v = .slice none 0 0⟩, ⟨5, 12, fun lo hi v W => v = .slice none 0 0⟩, ⟨6, 3, fun lo hi v W => v = .pointer (some ⟨lo, 0, none⟩) ∧ lo < hi ∧ W.heap[lo]? = some (.cells #[.slice none 0 0] 70 (0, 0))⟩, ⟨7, 4, fun lo hi v W => v = .pointer (some ⟨lo, 0, none⟩) ∧ lo < hi ∧ W.heap[lo]? = some (.cells #[.slice none 0 0] 69 (0, 0))⟩] _ _ _ rfl (by simp) (by simp) (by kernel_rfl) ?ag ?cl (Below.refl _ _) ?mk ?mo ?fin
    case ag => exact ⟨by simp [Act.eval], by simp [Act.eval]⟩
    case cl =>
      intro a m v ⟨h1, h2⟩ hm
      simp only [List.mem_cons, List.not_mem_nil, or_false] at hm
      rcases hm with rfl | rfl | rfl | rfl <;> exact ⟨(ev_put _ _ _ _ (by simp)).trans h1, (ev_put _ _ _ _ (by simp)).trans h2⟩
    case mk =>
      intro m hm
      simp only [List.mem_cons, List.not_mem_nil, or_false] at hm
      rcases hm with rfl | rfl | rfl | rfl
      · intro a V K ⟨h1, h2⟩ hb hk
        have ee : a.tmps[8]?.getD undef = .slice none 0 0 := by have := h1; simpa [Act.eval] using this
        refine wpOp_step rfl (fun K' hK => ?_)
        go_simp
        refine (clF0 V).mono ?_
        rintro e V1 ⟨rfl, hb1⟩
        exact hK _ _ (hk _ _ hb1 rfl)
      · intro a V K ⟨h1, h2⟩ hb hk
        have ee : a.tmps[11]?.getD undef = .slice none 0 0 := by have := h2; simpa [Act.eval] using this
        refine wpOp_step rfl (fun K' hK => ?_)
        go_simp
        refine (clC0 V).mono ?_
        rintro e V1 ⟨rfl, hb1⟩
        exact hK _ _ (hk _ _ hb1 rfl)
      all_goals
        intro a V K ⟨h1, h2⟩ hb hk
        refine wpOp_step rfl (fun K' hK => ?_)
        clear h1 h2
        go_simp
        exact hK _ _ (hk _ _ ((Below.refl _ _).alloc (Nat.le_refl _) _) ⟨rfl, by simp, heap_alloc_last _ _⟩)
    case mo =>
      intro m hm lo hi v V V' hR hb
      simp only [List.mem_cons, List.not_mem_nil, or_false] at hm
      rcases hm with rfl | rfl | rfl | rfl
      · exact hR
      · exact hR
      all_goals exact ⟨hR.1, hR.2.1, (hb.block _ (blk_in2 hR.2.2)).trans hR.2.2⟩
    case fin =>
      intro val lo hi V hb hm hdis
      obtain ⟨l2, _, _, r2⟩ := hm _ (.head _)
      obtain ⟨l5, _, _, r5⟩ := hm _ (.tail _ (.head _))
      obtain ⟨l6, _, _, r6⟩ := hm _ (.tail _ (.tail _ (.head _)))
      obtain ⟨l7, _, _, r7⟩ := hm _ (.tail _ (.tail _ (.tail _ (.head _))))
      change val 2 = _ at r2
      change val 5 = _ at r5
      obtain ⟨r6, i6, z6⟩ := r6
      obtain ⟨r7, i7, z7⟩ := r7
      change val 6 = _ at r6
      change val 7 = _ at r7
      have d1 := hdis _ (.tail _ (.tail _ (.head _))) _ (.tail _ (.tail _ (.tail _ (.head _)))) (by simp)
      clear hm hdis
      simp only at d1 l6 l7 i6 i7 z6 z7
      change AW.heap.size ≤ lo 6 at l6
      change AW.heap.size ≤ lo 7 at l7
      generalize lo 6 = g3 at *
      generalize lo 7 = g4 at *
      have n34 : g3 ≠ g4 := by omega
      have sz : w.heap.size + 1 ≤ AW.heap.size := blk_in2 AX.out
      have FX : V.heap[w.heap.size]? = some (.cells mE 73 (0, 0)) := (hb.block _ (by show w.heap.size < AW.heap.size; omega)).trans AX.out
      have FB' : Below w.heap.size w V := AB.out.drew.trans (hb.mono (by show w.heap.size ≤ AW.heap.size; omega))
      generalize hL : setAll _ _ = L
      simp only [putAll, List.foldl_cons, List.foldl_nil, r2, r5, r6, r7]
      simp only [Act.put, List.setIfInBounds_toArray, List.set_cons_succ, List.set_cons_zero]
      subst hL
      clear r2 r5 r6 r7 d1 hb hHeld AX AB
      refine wpAnyH_ready (rs := [8]) (by kernel_rfl) (by simp) ?_
      refine AllReadyH.cons (o := _) rfl (fun K hK => ?_) AllReadyH.nil
      rw [if_pos (by rfl)]
      have p3 := pointS V z6
      obtain ⟨p3, q3⟩ := p3
      unfold Oper.wp execOp
      go_simp
      have FX1 : (V.setCell ⟨g3, 0, none⟩ (.slice none 0 0)).heap[w.heap.size]? = some (.cells mE 73 (0, 0)) := (Below.heap_setCell _ _ _ _ (by show w.heap.size ≠ g3; omega)).trans FX
      have Z3 : (V.setCell ⟨g3, 0, none⟩ (.slice none 0 0)).heap[g3]? = some (.cells #[.slice none 0 0] 70 (0, 0)) := heap_setCell_same V g3 0 _ _ _ z6
      have Z4 : (V.setCell ⟨g3, 0, none⟩ (.slice none 0 0)).heap[g4]? = some (.cells #[.slice none 0 0] 69 (0, 0)) := (Below.heap_setCell _ _ _ _ (by show g4 ≠ g3; omega)).trans z7
      have FB1 : Below w.heap.size w (V.setCell ⟨g3, 0, none⟩ (.slice none 0 0)) := FB'.setCell (by show w.heap.size ≤ g3; omega) _
      generalize V.setCell ⟨g3, 0, none⟩ (.slice none 0 0) = V1 at *
      clear p3 q3 z6 z7 FB'
      refine hK.out _ _ FX1 (fun hHeld => ?_)
      clear hK K
      refine wpAnyH_ready (rs := [9]) (by kernel_rfl) (by simp) ?_
      refine AllReadyH.cons (o := _) rfl (fun K hK => ?_) AllReadyH.nil
      rw [if_pos (by rfl)]
      obtain ⟨p4, q4⟩ := pointS V1 Z4
      unfold Oper.wp execOp
      go_simp
      refine hK.out _ _ ((Below.heap_setCell _ _ _ _ (by show w.heap.size ≠ g4; omega)).trans FX1) (fun hHeld => ?_)
      clear hK K
      refine wpAnyH_done (by kernel_rfl) ?_ _
      refine Met.intro ?_
      go_step
      go_meet
      case rel =>
        exact ⟨g3, g4, rfl, rfl, (Below.heap_setCell _ _ _ _ (by show g3 ≠ g4; omega)).trans Z3, FB1.setCell (by show w.heap.size ≤ g4; omega) _⟩
  case rest =>
    obtain ⟨g3, g4, rfl, rfl, h3, hbw⟩ := hcut
    have HB : Hid (Below w.heap.size w wc) := hbw
    have p3 := pointS wc h3
    obtain ⟨p3, q3⟩ := p3
    clear h3 hbw AX AB
    go_upto_region 3 with fail
    go_loopw [15] (fun i wr => i = .int .i64 0 ∧ wr = wc) (fun _ _ => 0)
    case atStart => exact ⟨rfl, rfl⟩
    case round =>
      obtain ⟨rfl, rfl⟩ := hrel
      go_wp2
      go_ret
      exact ⟨⟨_, _, rfl⟩, HB.out⟩
end Go.Proofs.YtoiipiapgidbiaaGreatDoor
