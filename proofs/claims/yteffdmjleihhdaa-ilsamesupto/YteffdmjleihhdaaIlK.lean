/- The document's statement of an instruction; no statement of the seat is proved here. -/
import Derived.Test.YteffdmjleihhdaaIlJ
import Derived.Test.YteffdmjleihhdaaTrV
namespace Go.Proofs.Yteffdmjleihhdaa
set_option linter.unusedVariables false
open Go.RowKit
theorem sc_other (g : Nat) : ∀ (vs : List Value) (o : Nat) (w : World) (k : Nat), k ≠ g → (w.setCells g o vs).heap[k]? = w.heap[k]?
  | [], _, _, _, _ => rfl
  | v :: vs, o, w, k, hk => (sc_other g vs (o + 1) (w.setCell ⟨g, o, none⟩ v) k hk).trans (Below.heap_setCell _ _ _ _ hk)
theorem sc_size (g : Nat) : ∀ (vs : List Value) (o : Nat) (w : World), (w.setCells g o vs).heap.size = w.heap.size
  | [], _, _ => rfl
  | v :: vs, o, w => (sc_size g vs (o + 1) (w.setCell ⟨g, o, none⟩ v)).trans (by simp)
theorem set14 {w : World} {g : Nat} {t : TypeId} {z0 z1 z2 z3 z4 z5 z6 z7 z8 z9 z10 z11 z12 z13 : Value} (h : w.heap[g]? = some (.cells #[z0, z1, z2, z3, z4, z5, z6, z7, z8, z9, z10, z11, z12, z13] t (0, 0))) (v0 v1 v2 v3 v4 v5 v6 v7 v8 v9 v10 v11 v12 v13 : Value) : (w.setCells g 0 [v0, v1, v2, v3, v4, v5, v6, v7, v8, v9, v10, v11, v12, v13]).heap[g]? = some (.cells #[v0, v1, v2, v3, v4, v5, v6, v7, v8, v9, v10, v11, v12, v13] t (0, 0)) := by
  have h0 := heap_setCell_same _ g 0 _ t v0 h
  rw [List.setIfInBounds_toArray] at h0
  simp only [List.set_cons_zero] at h0
  have h1 := heap_setCell_same _ g 1 _ t v1 h0
  rw [List.setIfInBounds_toArray] at h1
  simp only [List.set_cons_zero, List.set_cons_succ] at h1
  have h2 := heap_setCell_same _ g 2 _ t v2 h1
  rw [List.setIfInBounds_toArray] at h2
  simp only [List.set_cons_zero, List.set_cons_succ] at h2
  have h3 := heap_setCell_same _ g 3 _ t v3 h2
  rw [List.setIfInBounds_toArray] at h3
  simp only [List.set_cons_zero, List.set_cons_succ] at h3
  have h4 := heap_setCell_same _ g 4 _ t v4 h3
  rw [List.setIfInBounds_toArray] at h4
  simp only [List.set_cons_zero, List.set_cons_succ] at h4
  have h5 := heap_setCell_same _ g 5 _ t v5 h4
  rw [List.setIfInBounds_toArray] at h5
  simp only [List.set_cons_zero, List.set_cons_succ] at h5
  have h6 := heap_setCell_same _ g 6 _ t v6 h5
  rw [List.setIfInBounds_toArray] at h6
  simp only [List.set_cons_zero, List.set_cons_succ] at h6
  have h7 := heap_setCell_same _ g 7 _ t v7 h6
  rw [List.setIfInBounds_toArray] at h7
  simp only [List.set_cons_zero, List.set_cons_succ] at h7
  have h8 := heap_setCell_same _ g 8 _ t v8 h7
  rw [List.setIfInBounds_toArray] at h8
  simp only [List.set_cons_zero, List.set_cons_succ] at h8
  have h9 := heap_setCell_same _ g 9 _ t v9 h8
  rw [List.setIfInBounds_toArray] at h9
  simp only [List.set_cons_zero, List.set_cons_succ] at h9
  have h10 := heap_setCell_same _ g 10 _ t v10 h9
  rw [List.setIfInBounds_toArray] at h10
  simp only [List.set_cons_zero, List.set_cons_succ] at h10
  have h11 := heap_setCell_same _ g 11 _ t v11 h10
  rw [List.setIfInBounds_toArray] at h11
  simp only [List.set_cons_zero, List.set_cons_succ] at h11
  have h12 := heap_setCell_same _ g 12 _ t v12 h11
  rw [List.setIfInBounds_toArray] at h12
  simp only [List.set_cons_zero, List.set_cons_succ] at h12
  have h13 := heap_setCell_same _ g 13 _ t v13 h12
  rw [List.setIfInBounds_toArray] at h13
  simp only [List.set_cons_zero, List.set_cons_succ] at h13
  exact h13
section
variable (h : IH) (x1 x2 x3 x4 : Option Addr) (n1 n3 n4 c1 c2 c3 c4 : Nat) (ns : List ByteArray) (w : World)
set_option maxRecDepth 20000 in
set_option maxHeartbeats 4000000 in
theorem statement_of (hn : NmAt w x2 ns) (f1 : few ns.length) (f2 : few n1) :
    Calls Try.prog 13 #[IV h (.slice x1 n1 c1) (.slice x2 ns.length c2) (.slice x3 n3 c3) (.slice x4 n4 c4)] w fun e w' => (∃ y c, e = .returned (CV h (.slice x1 n1 c1) (.slice y (pad n1 ns).length c) (.slice x3 n3 c3) (.slice x4 n4 c4)) ∧ NmF (Fresh w.heap.size w'.heap.size) w' y (pad n1 ns)) ∧ Below w.heap.size w w' := by
  have HC : Hid (∀ W, Below w.heap.size w W → Calls Try.prog 22 #[IV h (.slice x1 n1 c1) (.slice x2 ns.length c2) (.slice x3 n3 c3) (.slice x4 n4 c4)] W fun e w' => (∃ y c, e = .returned (.slice y (pad n1 ns).length c) ∧ NmF (Fresh W.heap.size w'.heap.size) w' y (pad n1 ns)) ∧ Below W.heap.size W w') := fun W hb => names_of h x1 x2 x3 x4 n1 n3 n4 c1 c2 c3 c4 ns W (hn.below hb) f1 f2
  clear hn f1 f2
  obtain ⟨W, eW⟩ : ∃ W, W = (w.alloc (.cells #[.int .i64 h.pl, .string h.lb, .string h.op, .bool h.nt, .bool h.cd, .bool h.ob, .string h.nm, .slice x1 n1 c1, .slice x2 ns.length c2, .slice x3 n3 c3, .slice x4 n4 c4] 28)).alloc (.cells #[.int .i64 0, .int .i64 0, .string ⟨#[]⟩, .int .i64 0, .slice none 0 0, .slice none 0 0, .slice none 0 0, .slice none 0 0, .slice none 0 0, .slice none 0 0, .slice none 0 0, .int .u8 0, .int .i64 0, .int .i64 0] 38) := ⟨_, rfl⟩
  have BW : Hid (Below w.heap.size w W) := by rw [eW]; exact ((Below.refl _ _).alloc (Nat.le_refl _) _).alloc (by simp) _
  have OX : Hid (W.heap[w.heap.size]? = some (.cells #[.int .i64 h.pl, .string h.lb, .string h.op, .bool h.nt, .bool h.cd, .bool h.ob, .string h.nm, .slice x1 n1 c1, .slice x2 ns.length c2, .slice x3 n3 c3, .slice x4 n4 c4] 28)) := by rw [eW]; exact (rowsB w _ _).1
  have OZ : Hid (W.heap[w.heap.size + 1]? = some (.cells #[.int .i64 0, .int .i64 0, .string ⟨#[]⟩, .int .i64 0, .slice none 0 0, .slice none 0 0, .slice none 0 0, .slice none 0 0, .slice none 0 0, .slice none 0 0, .slice none 0 0, .int .u8 0, .int .i64 0, .int .i64 0] 38)) := by rw [eW]; exact (rowsB w _ _).2
  have sW : W.heap.size = w.heap.size + 2 := by rw [eW]; simp
  go_enter Try.func13, Try.ntmps13
  go_wp2_with fail
  rw [← eW]
  clear eW
  refine wp_region_held_drew (S := fun V => V.heap[w.heap.size]? = some (.cells #[.int .i64 h.pl, .string h.lb, .string h.op, .bool h.nt, .bool h.cd, .bool h.ob, .string h.nm, .slice x1 n1 c1, .slice x2 ns.length c2, .slice x3 n3 c3, .slice x4 n4 c4] 28)) (by kernel_rfl) OX.out (fun hHeld => ?_)
  refine wpAnyH_take (i := 0) (v := .pointer (some ⟨w.heap.size, 6, none⟩)) rfl (by kernel_rfl) (by kernel_rfl) (by kernel_rfl) (fun _ _ _ h => h) (Or.inl ⟨by rfl, fun V hV => ?_⟩) hHeld ?_
  · go_simp
  simp only [Act.put, List.setIfInBounds_toArray]
  refine wpAnyH_take (i := 1) (v := .string h.nm) rfl (by kernel_rfl) (by kernel_rfl) (by kernel_rfl) (fun _ _ _ h => h) (Or.inl ⟨by rfl, fun V hV => ?_⟩) hHeld ?_
  · obtain ⟨d0, d1, d2, d3, d4, d5, d6, d7, d8, d9, d10⟩ := cells11 (show V.heap[w.heap.size]? = _ from hV)
    go_simp
  simp only [Act.put]
  refine wpAnyH_take (i := 2) (v := .pointer (some ⟨w.heap.size, 7, none⟩)) rfl (by kernel_rfl) (by kernel_rfl) (by kernel_rfl) (fun _ _ _ h => h) (Or.inl ⟨by rfl, fun V hV => ?_⟩) hHeld ?_
  · go_simp
  simp only [Act.put]
  refine wpAnyH_take (i := 3) (v := .slice x1 n1 c1) rfl (by kernel_rfl) (by kernel_rfl) (by kernel_rfl) (fun _ _ _ h => h) (Or.inl ⟨by rfl, fun V hV => ?_⟩) hHeld ?_
  · obtain ⟨d0, d1, d2, d3, d4, d5, d6, d7, d8, d9, d10⟩ := cells11 (show V.heap[w.heap.size]? = _ from hV)
    go_simp
  simp only [Act.put]
  refine wpAnyH_take (i := 4) (v := .agg ([.int .i64 h.pl, .string h.lb, .string h.op, .bool h.nt, .bool h.cd, .bool h.ob, .string h.nm, .slice x1 n1 c1, .slice x2 ns.length c2, .slice x3 n3 c3, .slice x4 n4 c4] : List Value).toArray) rfl (by kernel_rfl) (by kernel_rfl) (by kernel_rfl) (fun _ _ _ h => h) (Or.inl ⟨by rfl, fun V hV => ?_⟩) hHeld ?_
  · obtain ⟨d0, d1, d2, d3, d4, d5, d6, d7, d8, d9, d10⟩ := cells11 (show V.heap[w.heap.size]? = _ from hV)
    go_simp
  simp only [Act.put]
  refine wpAnyH_take (i := 6) (v := .pointer (some ⟨w.heap.size, 9, none⟩)) rfl (by kernel_rfl) (by kernel_rfl) (by kernel_rfl) (fun _ _ _ h => h) (Or.inl ⟨by rfl, fun V hV => ?_⟩) hHeld ?_
  · go_simp
  simp only [Act.put]
  refine wpAnyH_take (i := 7) (v := .slice x3 n3 c3) rfl (by kernel_rfl) (by kernel_rfl) (by kernel_rfl) (fun _ _ _ h => h) (Or.inl ⟨by rfl, fun V hV => ?_⟩) hHeld ?_
  · obtain ⟨d0, d1, d2, d3, d4, d5, d6, d7, d8, d9, d10⟩ := cells11 (show V.heap[w.heap.size]? = _ from hV)
    go_simp
  simp only [Act.put]
  refine wpAnyH_take (i := 8) (v := .pointer (some ⟨w.heap.size, 10, none⟩)) rfl (by kernel_rfl) (by kernel_rfl) (by kernel_rfl) (fun _ _ _ h => h) (Or.inl ⟨by rfl, fun V hV => ?_⟩) hHeld ?_
  · go_simp
  simp only [Act.put]
  refine wpAnyH_take (i := 9) (v := .slice x4 n4 c4) rfl (by kernel_rfl) (by kernel_rfl) (by kernel_rfl) (fun _ _ _ h => h) (Or.inl ⟨by rfl, fun V hV => ?_⟩) hHeld ?_
  · obtain ⟨d0, d1, d2, d3, d4, d5, d6, d7, d8, d9, d10⟩ := cells11 (show V.heap[w.heap.size]? = _ from hV)
    go_simp
  simp only [Act.put]
  refine wpAnyH_ready (rs := [5]) (by kernel_rfl) (by simp) ?_
  refine AllReadyH.cons (o := _) rfl (fun K hK => ?_) AllReadyH.nil
  go_simp
  refine (HC.out _ BW.out.drew).mono ?_
  rintro r w1 ⟨⟨y, c, rfl, hf⟩, hb⟩
  have X1 : w1.heap[w.heap.size]? = some (.cells #[.int .i64 h.pl, .string h.lb, .string h.op, .bool h.nt, .bool h.cd, .bool h.ob, .string h.nm, .slice x1 n1 c1, .slice x2 ns.length c2, .slice x3 n3 c3, .slice x4 n4 c4] 28) := (hb.block _ (show w.heap.size < W.heap.size from lt_of_block OX.out)).trans OX.out
  have Z1 : w1.heap[w.heap.size + 1]? = some (.cells #[.int .i64 0, .int .i64 0, .string ⟨#[]⟩, .int .i64 0, .slice none 0 0, .slice none 0 0, .slice none 0 0, .slice none 0 0, .slice none 0 0, .slice none 0 0, .slice none 0 0, .int .u8 0, .int .i64 0, .int .i64 0] 38) := (hb.block _ (show w.heap.size + 1 < W.heap.size from lt_of_block OZ.out)).trans OZ.out
  have B1 : Below w.heap.size w w1 := BW.out.drew.trans (hb.mono (show w.heap.size ≤ W.heap.size from BW.out.size))
  have s1 : W.heap.size ≤ w1.heap.size := hb.size
  refine hK.out _ _ X1 (fun hHeld => ?_)
  clear hK K
  refine wpAnyH_ready (rs := [10]) (by kernel_rfl) (by simp) ?_
  refine AllReadyH.cons (o := _) rfl (fun K hK => ?_) AllReadyH.nil
  go_simp
  refine hK.out _ _ X1 (fun hHeld => ?_)
  clear hK K
  refine wpAnyH_ready (rs := [11]) (by kernel_rfl) (by simp) ?_
  refine AllReadyH.cons (o := _) rfl (fun K hK => ?_) AllReadyH.nil
  rw [if_pos (by rfl)]
  have T1 : w1.there (w.heap.size + 1) 0 14 := there_of Z1 rfl
  refine wp_store_mid 38 _ _ rfl (w.heap.size + 1) 0 ([.int .i64 10, .int .i64 0, .string h.nm, .int .i64 0, .slice x1 n1 c1, .slice y (pad n1 ns).length c, .slice x3 n3 c3, .slice x4 n4 c4, .slice none 0 0, .slice none 0 0, .slice none 0 0, .int .u8 0, .int .i64 0, .int .i64 0] : List Value).toArray rfl rfl ?_ (by kernel_rfl) (all_oneCell_toArray (by intro v hv; simp at hv; rcases hv with rfl | rfl | rfl | rfl | rfl | rfl | rfl | rfl | rfl | rfl | rfl | rfl | rfl | rfl <;> rfl)) ?_
  · exact T1
  have E3 : ∀ k, k ≠ w.heap.size + 1 → (w1.setCells (w.heap.size + 1) 0 [.int .i64 10, .int .i64 0, .string h.nm, .int .i64 0, .slice x1 n1 c1, .slice y (pad n1 ns).length c, .slice x3 n3 c3, .slice x4 n4 c4, .slice none 0 0, .slice none 0 0, .slice none 0 0, .int .u8 0, .int .i64 0, .int .i64 0]).heap[k]? = w1.heap[k]? := fun k hk => sc_other _ _ _ _ _ hk
  have R3 : (w1.setCells (w.heap.size + 1) 0 [.int .i64 10, .int .i64 0, .string h.nm, .int .i64 0, .slice x1 n1 c1, .slice y (pad n1 ns).length c, .slice x3 n3 c3, .slice x4 n4 c4, .slice none 0 0, .slice none 0 0, .slice none 0 0, .int .u8 0, .int .i64 0, .int .i64 0]).heap[w.heap.size + 1]? = some (.cells ([.int .i64 10, .int .i64 0, .string h.nm, .int .i64 0, .slice x1 n1 c1, .slice y (pad n1 ns).length c, .slice x3 n3 c3, .slice x4 n4 c4, .slice none 0 0, .slice none 0 0, .slice none 0 0, .int .u8 0, .int .i64 0, .int .i64 0] : List Value).toArray 38 (0, 0)) := set14 Z1 _ _ _ _ _ _ _ _ _ _ _ _ _ _
  have B3 : Below w.heap.size w (w1.setCells (w.heap.size + 1) 0 [.int .i64 10, .int .i64 0, .string h.nm, .int .i64 0, .slice x1 n1 c1, .slice y (pad n1 ns).length c, .slice x3 n3 c3, .slice x4 n4 c4, .slice none 0 0, .slice none 0 0, .slice none 0 0, .int .u8 0, .int .i64 0, .int .i64 0]) := bl_set B1 (show w.heap.size ≤ w.heap.size + 1 by omega) 0 [.int .i64 10, .int .i64 0, .string h.nm, .int .i64 0, .slice x1 n1 c1, .slice y (pad n1 ns).length c, .slice x3 n3 c3, .slice x4 n4 c4, .slice none 0 0, .slice none 0 0, .slice none 0 0, .int .u8 0, .int .i64 0, .int .i64 0]
  have S3 : (w1.setCells (w.heap.size + 1) 0 [.int .i64 10, .int .i64 0, .string h.nm, .int .i64 0, .slice x1 n1 c1, .slice y (pad n1 ns).length c, .slice x3 n3 c3, .slice x4 n4 c4, .slice none 0 0, .slice none 0 0, .slice none 0 0, .int .u8 0, .int .i64 0, .int .i64 0]).heap.size = w1.heap.size := sc_size _ _ _ _
  refine hK.out _ _ ((E3 _ (by omega)).trans X1) (fun hHeld => ?_)
  clear hK K
  change wpAnyH _ _ _ _ _ _ _ _ (w1.setCells (w.heap.size + 1) 0 [.int .i64 10, .int .i64 0, .string h.nm, .int .i64 0, .slice x1 n1 c1, .slice y (pad n1 ns).length c, .slice x3 n3 c3, .slice x4 n4 c4, .slice none 0 0, .slice none 0 0, .slice none 0 0, .int .u8 0, .int .i64 0, .int .i64 0])
  generalize w1.setCells (w.heap.size + 1) 0 [.int .i64 10, .int .i64 0, .string h.nm, .int .i64 0, .slice x1 n1 c1, .slice y (pad n1 ns).length c, .slice x3 n3 c3, .slice x4 n4 c4, .slice none 0 0, .slice none 0 0, .slice none 0 0, .int .u8 0, .int .i64 0, .int .i64 0] = W3 at E3 R3 B3 S3 hHeld ⊢
  refine wpAnyH_done (by kernel_rfl) ?_ _
  rw [put_none (by rfl)]
  refine Met.intro ?_
  go_wp2
  refine bodyPost_ret (v := CV h (.slice x1 n1 c1) (.slice y (pad n1 ns).length c) (.slice x3 n3 c3) (.slice x4 n4 c4)) (results_cell_row Try.results13 _ _ (w.heap.size + 1) _ _ (0, 0) _ (by first | rfl | simp [Act.put]) R3 Try.underlying38 rfl st_infoI) rfl ?_
  refine ⟨⟨y, c, rfl, ?_⟩, B3⟩
  refine (hf.fr (w' := W3) fun q hq => World.cell?_of_block (E3 _ (by have := hq.1; change W.heap.size ≤ _ at this; omega))).sub fun b q => ⟨by have := q.1; change W.heap.size ≤ _ at this; omega, by rw [S3]; exact q.2⟩
end
end Go.Proofs.Yteffdmjleihhdaa
