/- A resource of nothing is made; no statement of the seat is proved here. -/
import Derived.Test.YtoiipiapgidbiaaGreatDoorSnH
namespace Go.Proofs.YtoiipiapgidbiaaGreatDoor
set_option linter.unusedVariables false
set_option linter.unusedSimpArgs false
open Go.RowKit
theorem mE_at {w : World} {g : Nat} (h : w.heap[g]? = some (.cells mE 73 (0, 0))) : w.cell? ⟨g, 0, none⟩ = some (.string ⟨#[77]⟩) ∧ w.cell? ⟨g, 1, none⟩ = some (.slice none 0 0) ∧ w.cell? ⟨g, 2, none⟩ = some (.slice none 0 0) ∧ w.cell? ⟨g, 3, none⟩ = some (.slice none 0 0) := by
  refine ⟨?_, ?_, ?_, ?_⟩ <;> simp [World.cell?, h]
/-- A resource of tasks in block g, with no cells and no tasks, at a time, in a mode. -/
def TkAt (w : World) (g : Nat) (o t m : Value) (f : Value) : Prop := ∃ F M y, w.heap[g]? = some (.cells #[.slice none 0 0, F, M, .slice y 0 0, o, .slice none 0 0, t, m, f] 80 (0, 0))
set_option maxRecDepth 20000 in
set_option maxHeartbeats 4000000 in
theorem newS_E (w : World) : Calls Tryz.prog 33 #[.agg mE] w fun e w' => (∃ g h, e = .returned (.tuple #[.pointer (some ⟨h, 0, none⟩), .int .i64 0]) ∧ w'.heap[h]? = some (.cells #[.int .i32 0, .int .u32 0, .pointer (some ⟨g, 0, none⟩)] 37 (0, 0)) ∧ TkAt w' g (.slice none 0 0) (.int .i64 0) (.int .i64 1) (.bool false) ∧ w.heap.size ≤ g ∧ g < h) ∧ Below w.heap.size w w' := by
  obtain ⟨AW, eW⟩ : ∃ AW, AW = w.alloc (.cells mE 73 (0, 0)) := ⟨_, rfl⟩
  have AX : Hid (AW.heap[w.heap.size]? = some (.cells mE 73 (0, 0))) := by rw [eW]; exact heap_alloc_last _ _
  have AB : Hid (Below w.heap.size w AW) := by rw [eW]; exact elB _ _
  have XA : Hid (∀ V, Below AW.heap.size AW V → V.heap[w.heap.size]? = some (.cells mE 73 (0, 0))) := fun V h => (h.block _ (blk_in2 AX.out)).trans AX.out
  go_enter Tryz.func33, Tryz.ntmps33
  go_upto_region 1 with fail
  rw [← eW]
  clear eW
  obtain ⟨i0, i1, i2, i3⟩ := mE_at (XA.out AW (Below.refl _ _))
  go_wp2_with fail
  refine (check_E _).mono ?_
  rintro e w1 ⟨rfl, hb1⟩
  have B1 : Hid (Below AW.heap.size AW w1) := hb1
  clear hb1 i0 i1 i2 i3
  obtain ⟨i0, i1, i2, i3⟩ := mE_at (XA.out w1 B1.out)
  go_upto_region 4 with fail
  go_cut [2, 3] (fun s2 s3 wx => ∃ g h, s2 = .pointer (some ⟨h, 0, none⟩) ∧ s3 = .int .i64 0 ∧ wx.heap[h]? = some (.cells #[.int .i32 0, .int .u32 0, .pointer (some ⟨g, 0, none⟩)] 37 (0, 0)) ∧ TkAt wx g (.slice none 0 0) (.int .i64 0) (.int .i64 1) (.bool false) ∧ w.heap.size ≤ g ∧ g < h ∧ Below w.heap.size w wx)
  case first =>
    refine wp_region_held_drew (S := fun V => V.heap[w.heap.size]? = some (.cells mE 73 (0, 0))) (by kernel_rfl) (XA.out w1 B1.out) (fun hHeld => ?_)
    refine wpAnyH_takeD (i := 0) (d := 16) (v := .pointer (some ⟨w.heap.size, 1, none⟩)) rfl (by kernel_rfl) (by kernel_rfl) (by kernel_rfl) (by kernel_rfl) (fun _ _ _ h => h) (Or.inl ⟨by rfl, fun V hV => ?_⟩) hHeld ?_
    · go_simp
    simp only [Act.put, List.setIfInBounds_toArray, List.set_cons_succ, List.set_cons_zero]
    refine wpAnyH_takeD (i := 1) (d := 17) (v := .slice none 0 0) rfl (by kernel_rfl) (by kernel_rfl) (by kernel_rfl) (by kernel_rfl) (fun _ _ _ h => h) (Or.inl ⟨by rfl, fun V hV => ?_⟩) hHeld ?_
    · obtain ⟨i0, i1, i2, i3⟩ := mE_at (show V.heap[w.heap.size]? = some (.cells mE 73 (0, 0)) from hV)
      go_simp
    simp only [Act.put, List.setIfInBounds_toArray, List.set_cons_succ, List.set_cons_zero]
    refine wpAnyH_takeD (i := 2) (d := 18) (v := .pointer (some ⟨w.heap.size, 3, none⟩)) rfl (by kernel_rfl) (by kernel_rfl) (by kernel_rfl) (by kernel_rfl) (fun _ _ _ h => h) (Or.inl ⟨by rfl, fun V hV => ?_⟩) hHeld ?_
    · go_simp
    simp only [Act.put, List.setIfInBounds_toArray, List.set_cons_succ, List.set_cons_zero]
    refine wpAnyH_takeD (i := 3) (d := 19) (v := .slice none 0 0) rfl (by kernel_rfl) (by kernel_rfl) (by kernel_rfl) (by kernel_rfl) (fun _ _ _ h => h) (Or.inl ⟨by rfl, fun V hV => ?_⟩) hHeld ?_
    · obtain ⟨i0, i1, i2, i3⟩ := mE_at (show V.heap[w.heap.size]? = some (.cells mE 73 (0, 0)) from hV)
      go_simp
    simp only [Act.put, List.setIfInBounds_toArray, List.set_cons_succ, List.set_cons_zero]
    refine wpAnyH_takeD (i := 4) (d := 20) (v := .agg mE) rfl (by kernel_rfl) (by kernel_rfl) (by kernel_rfl) (by kernel_rfl) (fun _ _ _ h => h) (Or.inl ⟨by rfl, fun V hV => ?_⟩) hHeld ?_
    · obtain ⟨i0, i1, i2, i3⟩ := mE_at (show V.heap[w.heap.size]? = some (.cells mE 73 (0, 0)) from hV)
      go_simp
    simp only [Act.put, List.setIfInBounds_toArray, List.set_cons_succ, List.set_cons_zero]
    refine wpAnyH_ready (rs := [5]) (by kernel_rfl) (by simp) ?_
    refine AllReadyH.cons (o := _) rfl (fun K hK => ?_) AllReadyH.nil
    rw [if_pos (by rfl)]
    unfold Oper.wp execOp
    go_simp
    refine (machine_E _).mono ?_
    rintro e w2 ⟨⟨a, b, rfl⟩, hb2⟩
    have B2 : Hid (Below AW.heap.size AW w2) := B1.out.trans ((Below.refl _ _).drew.trans hb2 |>.mono B1.out.size)
    clear hb2 B1
    refine hK.out _ _ (XA.out w2 B2.out) (fun hHeld => ?_)
    clear hK K
    refine wpAnyH_ready (rs := [6]) (by kernel_rfl) (by simp) ?_
    refine AllReadyH.cons (o := _) rfl (fun K hK => ?_) AllReadyH.nil
    rw [if_pos (by rfl)]
    unfold Oper.wp execOp
    go_simp
    refine (newT_E _ _ _).mono ?_
    rintro e w3 ⟨⟨g, y, M, rfl, hx, hg⟩, hb3⟩
    have B3 : Hid (Below AW.heap.size AW w3) := B2.out.trans (hb3.mono B2.out.size)
    have X3 : Hid (TkAt w3 g (.slice none 0 0) (.int .i64 0) (.int .i64 1) (.bool false)) := ⟨_, _, _, hx⟩
    have G3 : Hid (AW.heap.size ≤ g ∧ g < w3.heap.size) := ⟨Nat.le_trans B2.out.size hg, blk_in2 hx⟩
    clear hb3 hx hg B2
    refine hK.out _ _ (XA.out w3 B3.out) (fun hHeld => ?_)
    clear hK K
    refine wpAnyH_ready (rs := [7]) (by kernel_rfl) (by simp) ?_
    refine AllReadyH.cons (o := _) rfl (fun K hK => ?_) AllReadyH.nil
    rw [if_pos (by rfl)]
    unfold Oper.wp execOp
    go_simp
    refine hK.out _ _ (XA.out w3 B3.out) (fun hHeld => ?_)
    clear hK K
    refine wpAnyH_ready (rs := [8]) (by kernel_rfl) (by simp) ?_
    refine AllReadyH.cons (o := _) rfl (fun K hK => ?_) AllReadyH.nil
    rw [if_pos (by rfl)]
    unfold Oper.wp execOp
    go_simp
    obtain ⟨V4, eV⟩ : ∃ V, V = w3.alloc (.cells #[.int .i32 0, .int .u32 0, .pointer (some ⟨g, 0, none⟩)] 37 (0, 0)) := ⟨_, rfl⟩
    rw [← eV]
    have H4 : Hid (V4.heap[w3.heap.size]? = some (.cells #[.int .i32 0, .int .u32 0, .pointer (some ⟨g, 0, none⟩)] 37 (0, 0))) := by rw [eV]; exact heap_alloc_last _ _
    have A4 : Below w3.heap.size w3 V4 := by rw [eV]; exact elB _ _
    have B4 : Hid (Below AW.heap.size AW V4) := B3.out.trans (A4.mono B3.out.size)
    have T4 : Hid (TkAt V4 g (.slice none 0 0) (.int .i64 0) (.int .i64 1) (.bool false)) := by
      obtain ⟨F, M', y', q⟩ := X3.out
      exact ⟨F, M', y', (A4.block _ G3.out.2).trans q⟩
    have S4 : Hid (AW.heap.size ≤ g ∧ g < w3.heap.size ∧ w.heap.size ≤ AW.heap.size) := ⟨G3.out.1, G3.out.2, AB.out.size⟩
    clear A4 eV B3 X3 G3
    generalize w3.heap.size = h at *
    refine hK.out _ _ (XA.out V4 B4.out) (fun hHeld => ?_)
    clear hK K
    refine wpAnyH_ready (rs := [9]) (by kernel_rfl) (by simp) ?_
    refine AllReadyH.cons (o := _) rfl (fun K hK => ?_) AllReadyH.nil
    rw [if_pos (by rfl)]
    unfold Oper.wp execOp
    go_simp
    refine hK.out _ _ (XA.out V4 B4.out) (fun hHeld => ?_)
    clear hK K
    refine wpAnyH_ready (rs := [10]) (by kernel_rfl) (by simp) ?_
    refine AllReadyH.cons (o := _) rfl (fun K hK => ?_) AllReadyH.nil
    rw [if_pos (by rfl)]
    unfold Oper.wp execOp
    go_simp
    refine hK.out _ _ (XA.out V4 B4.out) (fun hHeld => ?_)
    clear hK K
    refine wpAnyH_done (by kernel_rfl) ?_ _
    refine Met.intro ?_
    go_step
    go_meet
    case rel => exact ⟨g, h, rfl, rfl, H4.out, T4.out, Nat.le_trans S4.out.2.2 S4.out.1, S4.out.2.1, AB.out.trans (B4.out.mono AB.out.size)⟩
  case rest =>
    obtain ⟨g, h, rfl, rfl, h1, h2, h3, h4, h5⟩ := hcut
    go_wp2
    exact bodyPost_ret (v := .tuple #[.pointer (some ⟨h, 0, none⟩), .int .i64 0]) (by simp [results, Tryz.results33, go_sem]) rfl ⟨⟨g, h, rfl, h1, h2, h3, h4⟩, h5⟩
end Go.Proofs.YtoiipiapgidbiaaGreatDoor
