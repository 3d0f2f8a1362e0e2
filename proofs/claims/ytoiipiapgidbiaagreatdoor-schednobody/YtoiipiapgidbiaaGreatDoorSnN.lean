/- A resource of nothing: an entry; no statement of the seat is proved here. -/
import Derived.Test.YtoiipiapgidbiaaGreatDoorSnM
namespace Go.Proofs.YtoiipiapgidbiaaGreatDoor
set_option linter.unusedVariables false
set_option linter.unusedSimpArgs false
open Go.RowKit
/-- What an entry of nothing tells. -/
abbrev rz7 : Array Value := #[.slice none 0 0, .slice none 0 0, .int .i64 2, .int .i64 0, .string ⟨#[]⟩, .slice none 0 0, .int .i64 0]
/-- Block g alone has turned. -/
def Keep (g : Nat) (w w' : World) : Prop := (∀ B, B ≤ g → Below B w w') ∧ w.heap.size ≤ w'.heap.size ∧ ∀ k, k ≠ g → k < w.heap.size → w'.heap[k]? = w.heap[k]?
theorem Keep.refl (g : Nat) (w : World) : Keep g w w := ⟨fun B _ => Below.refl _ _, Nat.le_refl _, fun _ _ _ => rfl⟩
theorem Keep.trans {g : Nat} {a b c : World} (h : Keep g a b) (k : Keep g b c) : Keep g a c :=
  ⟨fun B hB => (h.1 B hB).trans (k.1 B hB), Nat.le_trans h.2.1 k.2.1, fun j hj hl => (k.2.2 j hj (Nat.lt_of_lt_of_le hl h.2.1)).trans (h.2.2 j hj hl)⟩
theorem Keep.bel {g : Nat} {a b : World} (h : Below a.heap.size a b) (hg : g ≤ a.heap.size) : Keep g a b :=
  ⟨fun B hB => h.mono (by omega), h.size, fun k _ hl => h.block k hl⟩
theorem Keep.set {g : Nat} {a b : World} (h : Keep g a b) (i : Nat) (v : Value) : Keep g a (b.setCell ⟨g, i, none⟩ v) :=
  ⟨fun B hB => (h.1 B hB).setCell (by show B ≤ g; exact hB) _, by have := h.2.1; simpa using this, fun k hk hl => (Below.heap_setCell _ _ _ _ (by show k ≠ g; exact hk)).trans (h.2.2 k hk hl)⟩
theorem Keep.fre {g : Nat} {a b : World} (h : Keep g a b) {q : Nat} (hq : a.heap.size < q) (hg : g < a.heap.size) (i : Nat) (v : Value) : Keep g a (b.setCell ⟨q, i, none⟩ v) :=
  ⟨fun B hB => (h.1 B hB).setCell (by show B ≤ q; omega) _, by have := h.2.1; simpa using this, fun k hk hl => (Below.heap_setCell _ _ _ _ (by show k ≠ q; omega)).trans (h.2.2 k hk hl)⟩
theorem Keep.row {g : Nat} {a b : World} (h : Keep g a b) (hg : g < a.heap.size) (cs : Array Value) : Keep g a (b.setRow a.heap.size cs) :=
  ⟨fun B hB => (h.1 B hB).trans (below_setRow (Below.refl _ _) (by omega) _), by have := h.2.1; simpa [World.setRow] using this, fun k hk hl => (setRow_other _ _ _ _ (by omega)).trans (h.2.2 k hk hl)⟩
theorem TkAt.row {w : World} {g : Nat} {o t m f : Value} (h : TkAt w g o t m f) {k : Nat} (hk : g ≠ k) (cs : Array Value) : TkAt (w.setRow k cs) g o t m f := by
  obtain ⟨F, M, y, q⟩ := h; exact ⟨F, M, y, (setRow_other _ _ _ _ hk).trans q⟩
theorem Keep.rs {g h s : Nat} {a b : World} {x : Int} (k : Keep g a b) (q : RsAt a h s x) (hg : h ≠ g) : RsAt b h s x := (k.2.2 h hg (blk_in2 q)).trans q
set_option maxRecDepth 20000 in
set_option maxHeartbeats 8000000 in
theorem entryT_E (g : Nat) (f : Value) (w : World) (h : TkAt w g (.slice none 0 0) (.int .i64 0) (.int .i64 2) f) : Calls Tryz.prog 18 #[.pointer (some ⟨g, 0, none⟩), .int .i64 7, .slice none 0 0] w fun e w' => e = .returned (.tuple #[.agg rz7, .int .i64 0]) ∧ TkAt w' g (.slice none 0 0) (.int .i64 7) (.int .i64 2) (.bool false) ∧ Keep g w w' := by
  have HW : Hid (g < w.heap.size) := by obtain ⟨_, _, _, q⟩ := h; exact blk_in2 q
  obtain ⟨W1, e1⟩ : ∃ W, W = w.alloc (.cells zr 42 (0, 0)) := ⟨_, rfl⟩
  have X1 : Hid (W1.heap[w.heap.size]? = some (.cells zr 42 (0, 0))) := by rw [e1]; exact heap_alloc_last _ _
  have K1 : Hid (Keep g w W1) := Keep.bel (by rw [e1]; exact elB _ _) (Nat.le_of_lt HW.out)
  have T1 : Hid (TkAt W1 g (.slice none 0 0) (.int .i64 0) (.int .i64 2) f) := h.bel (by rw [e1]; exact elB _ _)
  clear h
  obtain ⟨c0, c4, c5, c6, c7, c8, fz⟩ := tkR T1.out
  go_enter Tryz.func18, Tryz.ntmps18
  go_upto_region 1 with fail
  rw [← e1]
  clear e1
  go_wp2_with fail
  refine (takes_E g _).mono ?_
  rintro e w1 ⟨rfl, rfl⟩
  go_upto_region 7 with fail
  obtain ⟨W2, e2⟩ : ∃ W, W = w1.setCell ⟨g, 6, none⟩ (.int .i64 7) := ⟨_, rfl⟩
  rw [← e2]
  have K2 : Hid (Keep g w W2) := by rw [e2]; exact K1.out.set 6 _
  have T2 : Hid (TkAt W2 g (.slice none 0 0) (.int .i64 7) (.int .i64 2) f) := by rw [e2]; exact T1.out.s6 _
  have X2 : Hid (W2.heap[w.heap.size]? = some (.cells zr 42 (0, 0))) := by rw [e2]; exact (Below.heap_setCell _ _ _ _ (by have := HW.out; show w.heap.size ≠ g; omega)).trans X1.out
  clear e2 c0 c4 c5 c6 c7 c8 fz K1 T1 X1
  go_upto_region 8 with fail
  go_loopw [51] (fun i wr => i = .int .i64 0 ∧ wr = W2) (fun _ _ => 0)
  case atStart => exact ⟨rfl, rfl⟩
  case round =>
    obtain ⟨rfl, rfl⟩ := hrel
    go_upto_region 13 with fail
    obtain ⟨W3, e3⟩ : ∃ W, W = wr.alloc (.cells zr 42 (0, 0)) := ⟨_, rfl⟩
    obtain ⟨q, eq⟩ : ∃ q, q = wr.heap.size := ⟨_, rfl⟩
    rw [← e3]
    try rw [← eq]
    have K3 : Hid (Keep g w W3) := K2.out.trans (Keep.bel (by rw [e3]; exact elB _ _) (by have := HW.out; have := K2.out.2.1; omega))
    have T3 : Hid (TkAt W3 g (.slice none 0 0) (.int .i64 7) (.int .i64 2) f) := T2.out.bel (by rw [e3]; exact elB _ _)
    have X3 : Hid (W3.heap[w.heap.size]? = some (.cells zr 42 (0, 0))) := by rw [e3]; exact (Below.heap_alloc _ _ _ (blk_in2 X2.out)).trans X2.out
    have Y3 : Hid (W3.heap[q]? = some (.cells zr 42 (0, 0))) := by rw [e3, eq]; exact heap_alloc_last _ _
    have HQ : Hid (w.heap.size < q) := by rw [eq]; exact blk_in2 X2.out
    clear e3 eq K2 T2 X2
    obtain ⟨c0, c4, c5, c6, c7, c8, fz⟩ := tkR T3.out
    go_wp2_with fail
    refine (callT_E g _ _ _ _ _ _ T3.out).mono ?_
    rintro e w4 ⟨rfl, rfl⟩
    obtain ⟨W4, e4⟩ : ∃ W, W = W3.setCell ⟨g, 8, none⟩ (.bool false) := ⟨_, rfl⟩
    rw [← e4]
    have K4 : Hid (Keep g w W4) := by rw [e4]; exact K3.out.set 8 _
    have T4 : Hid (TkAt W4 g (.slice none 0 0) (.int .i64 7) (.int .i64 2) (.bool false)) := by rw [e4]; exact T3.out.s8 _
    have X4 : Hid (W4.heap[w.heap.size]? = some (.cells zr 42 (0, 0))) := by rw [e4]; exact (Below.heap_setCell _ _ _ _ (by have := HW.out; show w.heap.size ≠ g; omega)).trans X3.out
    have Y4 : Hid (W4.heap[q]? = some (.cells zr 42 (0, 0))) := by rw [e4]; exact (Below.heap_setCell _ _ _ _ (by have := HW.out; have := HQ.out; show q ≠ g; omega)).trans Y3.out
    clear e4 c0 c4 c5 c6 c7 c8 fz K3 T3 X3 Y3
    go_wp2_with fail
    refine (work_E g _ _ _ _ _ _ T4.out).mono ?_
    rintro e w5 ⟨rfl, rfl⟩
    obtain ⟨c0, c4, c5, c6, c7, c8, fz⟩ := tkR T4.out
    clear c0 c4 c5 c6 c7 c8 fz
    go_upto_region 16 with fail
    go_cut [84] (fun s wx => TkAt wx g (.slice none 0 0) (.int .i64 7) (.int .i64 2) (.bool false) ∧ wx.heap[w.heap.size]? = some (.cells zr 42 (0, 0)) ∧ wx.heap[q]? = some (.cells rz7 42 (0, 0)) ∧ Keep g w wx)
    case first =>
      refine wp_region_held_drew (S := fun V => TkAt V g (.slice none 0 0) (.int .i64 7) (.int .i64 2) (.bool false)) (by kernel_rfl) (T4.out.bel ((Below.refl _ _).drew)) (fun hHeld => ?_)
      refine wpAnyH_takeD (i := 0) (d := 80) (v := .pointer (some ⟨g, 0, none⟩)) rfl (by kernel_rfl) (by kernel_rfl) (by kernel_rfl) (by kernel_rfl) (fun _ _ _ h => h) (Or.inl ⟨by rfl, fun V hV => ?_⟩) hHeld ?_
      · go_simp
      simp only [Act.put, List.setIfInBounds_toArray, List.set_cons_succ, List.set_cons_zero]
      refine wpAnyH_takeD (i := 1) (d := 81) (v := .pointer (some ⟨g, 0, none⟩)) rfl (by kernel_rfl) (by kernel_rfl) (by kernel_rfl) (by kernel_rfl) (fun _ _ _ h => h) (Or.inl ⟨by rfl, fun V hV => ?_⟩) hHeld ?_
      · go_simp
      simp only [Act.put, List.setIfInBounds_toArray, List.set_cons_succ, List.set_cons_zero]
      refine wpAnyH_takeD (i := 2) (d := 82) (v := .pointer (some ⟨g, 4, none⟩)) rfl (by kernel_rfl) (by kernel_rfl) (by kernel_rfl) (by kernel_rfl) (fun _ _ _ h => h) (Or.inl ⟨by rfl, fun V hV => ?_⟩) hHeld ?_
      · go_simp
      simp only [Act.put, List.setIfInBounds_toArray, List.set_cons_succ, List.set_cons_zero]
      refine wpAnyH_takeD (i := 3) (d := 83) (v := .slice none 0 0) rfl (by kernel_rfl) (by kernel_rfl) (by kernel_rfl) (by kernel_rfl) (fun _ _ _ h => h) (Or.inl ⟨by rfl, fun V hV => ?_⟩) hHeld ?_
      · obtain ⟨c0, c4, c5, c6, c7, c8, fz⟩ := tkR hV
        go_simp
      simp only [Act.put, List.setIfInBounds_toArray, List.set_cons_succ, List.set_cons_zero]
      refine wpAnyH_takeD (i := 5) (d := 85) (v := .pointer (some ⟨g, 0, none⟩)) rfl (by kernel_rfl) (by kernel_rfl) (by kernel_rfl) (by kernel_rfl) (fun _ _ _ h => h) (Or.inl ⟨by rfl, fun V hV => ?_⟩) hHeld ?_
      · go_simp
      simp only [Act.put, List.setIfInBounds_toArray, List.set_cons_succ, List.set_cons_zero]
      refine wpAnyH_takeD (i := 6) (d := 86) (v := .pointer (some ⟨g, 0, none⟩)) rfl (by kernel_rfl) (by kernel_rfl) (by kernel_rfl) (by kernel_rfl) (fun _ _ _ h => h) (Or.inl ⟨by rfl, fun V hV => ?_⟩) hHeld ?_
      · go_simp
      simp only [Act.put, List.setIfInBounds_toArray, List.set_cons_succ, List.set_cons_zero]
      refine wpAnyH_takeD (i := 7) (d := 87) (v := .pointer (some ⟨g, 7, none⟩)) rfl (by kernel_rfl) (by kernel_rfl) (by kernel_rfl) (by kernel_rfl) (fun _ _ _ h => h) (Or.inl ⟨by rfl, fun V hV => ?_⟩) hHeld ?_
      · go_simp
      simp only [Act.put, List.setIfInBounds_toArray, List.set_cons_succ, List.set_cons_zero]
      refine wpAnyH_takeD (i := 8) (d := 88) (v := .int .i64 2) rfl (by kernel_rfl) (by kernel_rfl) (by kernel_rfl) (by kernel_rfl) (fun _ _ _ h => h) (Or.inl ⟨by rfl, fun V hV => ?_⟩) hHeld ?_
      · obtain ⟨c0, c4, c5, c6, c7, c8, fz⟩ := tkR hV
        go_simp
      simp only [Act.put, List.setIfInBounds_toArray, List.set_cons_succ, List.set_cons_zero]
      refine wpAnyH_ready (rs := [4]) (by kernel_rfl) (by simp) ?_
      refine AllReadyH.cons (o := _) rfl (fun K hK => ?_) AllReadyH.nil
      rw [if_pos (by rfl)]
      unfold Oper.wp execOp
      go_simp
      refine (clI0 _).mono ?_
      rintro e V1 ⟨rfl, hb1⟩
      have hb2 : Below w5.heap.size w5 V1 := (Below.refl _ _).drew.trans hb1
      have K5 : Hid (Keep g w V1) := K4.out.trans (Keep.bel hb2 (by have := HW.out; have := K4.out.2.1; omega))
      have T5 : Hid (TkAt V1 g (.slice none 0 0) (.int .i64 7) (.int .i64 2) (.bool false)) := T4.out.bel hb2
      have X5 : Hid (V1.heap[w.heap.size]? = some (.cells zr 42 (0, 0))) := (hb2.block _ (blk_in2 X4.out)).trans X4.out
      have Y5 : Hid (V1.heap[q]? = some (.cells zr 42 (0, 0))) := (hb2.block _ (blk_in2 Y4.out)).trans Y4.out
      clear hb1 hb2 K4 T4 X4 Y4
      refine hK.out _ _ T5.out (fun hHeld => ?_)
      clear hK K
      refine wpAnyH_ready (rs := [9]) (by kernel_rfl) (by simp) ?_
      refine AllReadyH.cons (o := _) rfl (fun K hK => ?_) AllReadyH.nil
      rw [if_pos (by rfl)]
      unfold Oper.wp execOp
      go_simp
      refine hK.out _ _ T5.out (fun hHeld => ?_)
      clear hK K
      have p1 : V1.cell? ⟨q, 1, none⟩ = some (.slice none 0 0) := by simp [World.cell?, Y5.out]
      have p2 : ∀ i, V1.frozen? ⟨q, i, none⟩ = false := fun i => by simp [World.frozen?, Y5.out]
      refine wpAnyH_ready (rs := [10]) (by kernel_rfl) (by simp) ?_
      refine AllReadyH.cons (o := _) rfl (fun K hK => ?_) AllReadyH.nil
      rw [if_pos (by rfl)]
      unfold Oper.wp execOp
      go_simp
      have hgq : g ≠ q := by have := HW.out; have := HQ.out; omega
      have hwq : w.heap.size ≠ q := by have := HQ.out; omega
      obtain ⟨V2, eV⟩ : ∃ W, W = V1.setCell ⟨q, 1, none⟩ (.slice none 0 0) := ⟨_, rfl⟩
      rw [← eV]
      have T6 : Hid (TkAt V2 g (.slice none 0 0) (.int .i64 7) (.int .i64 2) (.bool false)) := by rw [eV]; exact T5.out.oth q 1 _ hgq
      have X6 : Hid (V2.heap[w.heap.size]? = some (.cells zr 42 (0, 0))) := by rw [eV]; exact (Below.heap_setCell _ _ _ _ (by show w.heap.size ≠ q; exact hwq)).trans X5.out
      have Y6 : Hid (V2.heap[q]? = some (.cells zr 42 (0, 0))) := by rw [eV]; exact heap_setCell_same _ q 1 _ _ _ Y5.out
      have K6 : Hid (Keep g w V2) := by rw [eV]; exact K5.out.fre HQ.out HW.out 1 _
      clear eV p1 p2 K5 T5 X5 Y5
      refine hK.out _ _ T6.out (fun hHeld => ?_)
      clear hK K
      refine wpAnyH_ready (rs := [11]) (by kernel_rfl) (by simp) ?_
      refine AllReadyH.cons (o := _) rfl (fun K hK => ?_) AllReadyH.nil
      rw [if_pos (by rfl)]
      unfold Oper.wp execOp
      go_simp
      refine hK.out _ _ T6.out (fun hHeld => ?_)
      clear hK K
      have p1 : V2.cell? ⟨q, 2, none⟩ = some (.int .i64 0) := by simp [World.cell?, Y6.out]
      have p2 : ∀ i, V2.frozen? ⟨q, i, none⟩ = false := fun i => by simp [World.frozen?, Y6.out]
      refine wpAnyH_ready (rs := [12]) (by kernel_rfl) (by simp) ?_
      refine AllReadyH.cons (o := _) rfl (fun K hK => ?_) AllReadyH.nil
      rw [if_pos (by rfl)]
      unfold Oper.wp execOp
      go_simp
      obtain ⟨V3, eV⟩ : ∃ W, W = V2.setCell ⟨q, 2, none⟩ (.int .i64 2) := ⟨_, rfl⟩
      rw [← eV]
      have T7 : Hid (TkAt V3 g (.slice none 0 0) (.int .i64 7) (.int .i64 2) (.bool false)) := by rw [eV]; exact T6.out.oth q 2 _ hgq
      have X7 : Hid (V3.heap[w.heap.size]? = some (.cells zr 42 (0, 0))) := by rw [eV]; exact (Below.heap_setCell _ _ _ _ (by show w.heap.size ≠ q; exact hwq)).trans X6.out
      have Y7 : Hid (V3.heap[q]? = some (.cells rz7 42 (0, 0))) := by rw [eV]; exact heap_setCell_same _ q 2 _ _ _ Y6.out
      have K7 : Hid (Keep g w V3) := by rw [eV]; exact K6.out.fre HQ.out HW.out 2 _
      clear eV p1 p2 K6 T6 X6 Y6
      refine hK.out _ _ T7.out (fun hHeld => ?_)
      clear hK K
      refine wpAnyH_done (by kernel_rfl) ?_ _
      refine Met.intro ?_
      go_step
      go_meet
      case rel => exact ⟨T7.out, X7.out, Y7.out, K7.out⟩
    case rest =>
      obtain ⟨hT, hX, hY, hK⟩ := hcut
      have T8 : Hid (TkAt wc g (.slice none 0 0) (.int .i64 7) (.int .i64 2) (.bool false)) := hT
      have X8 : Hid (wc.heap[w.heap.size]? = some (.cells zr 42 (0, 0))) := hX
      have Y8 : Hid (wc.heap[q]? = some (.cells rz7 42 (0, 0))) := hY
      have K8 : Hid (Keep g w wc) := hK
      clear hT hX hY hK K4 T4 X4 Y4
      obtain ⟨c0, c4, c5, c6, c7, c8, fz⟩ := tkR T8.out
      go_upto_region 18 with fail
      go_loopw [96] (fun i wr => i = .int .i64 0 ∧ wr = wc) (fun _ _ => 0)
      case atStart => exact ⟨rfl, rfl⟩
      case round =>
        obtain ⟨rfl, rfl⟩ := hrel
        go_upto_region 22 with fail
        have hX := X8.out
        have hY := Y8.out
        go_wp2_with (first | (refine wpList_load_row rfl 42 _ rfl q rfl _ rz7 (0, 0) _ hY Tryz.underlying42 rfl rep_info ?_) | (refine wpList_store_row rfl 42 _ _ rfl (w.heap.size) _ rfl rfl _ _ hX rep_info rfl (by kernel_rfl) ?_))
        exact bodyPost_ret (v := .tuple #[.agg rz7, .int .i64 0]) (results_cell_row_1 Tryz.results18 _ _ (w.heap.size) _ _ (0, 0) _ (by first | rfl | simp [Act.put]) (setRow_heap _ _ _ _ _ _ hX) Tryz.underlying42 rfl rep_info) rfl ⟨rfl, T8.out.row (by have := HW.out; omega) _, K8.out.row HW.out _⟩
end Go.Proofs.YtoiipiapgidbiaaGreatDoor
