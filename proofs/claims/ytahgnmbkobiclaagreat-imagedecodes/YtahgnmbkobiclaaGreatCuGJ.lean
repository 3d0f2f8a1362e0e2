/- image: what the document's cursor reads: values, instructions, cells; no statement of the seat is proved here. -/
import Derived.Test.YtahgnmbkobiclaaGreatJnA7
import Derived.Test.YtahgnmbkobiclaaGreatJnA5
namespace Go.Proofs.YtahgnmbkobiclaaGreat
set_option linter.unusedVariables false
open Go.RowKit
set_option maxRecDepth 20000 in
set_option maxHeartbeats 8000000 in
theorem valueCG (g kb o c : Nat) (bs : List Nat) (s s1 s2 s3 : RS) (v1 : Nat) (v2 : Int) (v3 : ByteArray) (h8 : IntKind.u8.wrap (v1 : Int) = (v1 : Int))
    (C1 : ∀ W, Cu g kb o c bs s W → Calls Tryz.prog 60 #[.pointer (some ⟨g, 0, none⟩)] W fun e w' => e = .returned (.int .i64 v1) ∧ Cu g kb o c bs s1 w' ∧ W.grownBy w' (some g))
    (C2 : ∀ W, Cu g kb o c bs s1 W → Calls Tryz.prog 107 #[.pointer (some ⟨g, 0, none⟩)] W fun e w' => e = .returned (.int .u64 v2) ∧ Cu g kb o c bs s2 w' ∧ W.grownBy w' (some g))
    (C3 : ∀ W, Cu g kb o c bs s2 W → Calls Tryz.prog 28 #[.pointer (some ⟨g, 0, none⟩)] W fun e w' => e = .returned (.string v3) ∧ Cu g kb o c bs s3 w' ∧ W.grownBy w' (some g))
    (w : World) (h : Cu g kb o c bs s w) :
    Calls Tryz.prog 62 #[.pointer (some ⟨g, 0, none⟩)] w fun e w' => e = .returned (.agg #[.int .u8 v1, .int .u64 v2, .string v3]) ∧ Cu g kb o c bs s3 w' ∧ w.grownBy w' (some g) := by
  obtain ⟨r, hr⟩ : ∃ r, w.heap.size = r := ⟨_, rfl⟩
  obtain ⟨AW, eW⟩ : ∃ AW, AW = w.alloc (.cells #[.int .u8 0, .int .u64 0, .string ⟨#[]⟩] 48 (0, 0)) := ⟨_, rfl⟩
  have R0 : Hid (Cu g kb o c bs s AW) := by rw [eW]; exact h.al _
  have G0 : Hid (w.grownBy AW (some g)) := by rw [eW]; exact gb_alloc _ _ _
  have X0 : Hid (AW.heap[r]? = some (.cells #[.int .u8 0, .int .u64 0, .string ⟨#[]⟩] 48 (0, 0))) := by rw [eW, ← hr]; exact heap_alloc_last _ _
  have NG : Hid (r ≠ g) := by have := h.lt; show r ≠ g; omega
  have RG : Hid (w.heap.size ≤ r) := by show _ ≤ _; omega
  have NK : Hid (r ≠ kb) := by have := h.kl; show r ≠ kb; omega
  have D1 : Hid _ := C1
  have D2 : Hid _ := C2
  have D3 : Hid _ := C3
  clear h C1 C2 C3
  go_enter Tryz.func62, Tryz.ntmps62
  go_upto_region 1 with fail
  rw [← eW]
  try rw [hr]
  clear eW hr
  go_wp2_with (go_at_call 60; refine (D1.out _ R0.out).mono ?_)
  first | (rintro e w1 ⟨he, h1, g1⟩; have he' := he) | (rintro e w1 he h1 g1)
  subst he
  have R1 : Hid (Cu g kb o c bs s1 w1) := h1
  have G1 : Hid (w.grownBy w1 (some g)) := gb_trans G0.out g1
  have X1 : Hid (w1.heap[r]? = some (.cells #[.int .u8 0, .int .u64 0, .string ⟨#[]⟩] 48 (0, 0))) := (g1.block r (blk_in' X0.out) (by have := NG.out; intro q; cases q; exact this rfl)).trans X0.out
  clear h1 g1 R0 G0 X0 D1
  go_wp2_with (go_at_call 107; refine (D2.out _ R1.out).mono ?_)
  first | (rintro e w2 ⟨he, h1, g1⟩; have he' := he) | (rintro e w2 he h1 g1)
  subst he
  have R2 : Hid (Cu g kb o c bs s2 w2) := h1
  have G2 : Hid (w.grownBy w2 (some g)) := gb_trans G1.out g1
  have X2 : Hid (w2.heap[r]? = some (.cells #[.int .u8 0, .int .u64 0, .string ⟨#[]⟩] 48 (0, 0))) := (g1.block r (blk_in' X1.out) (by have := NG.out; intro q; cases q; exact this rfl)).trans X1.out
  clear h1 g1 R1 G1 X1 D2
  go_wp2_with (go_at_call 28; refine (D3.out _ R2.out).mono ?_)
  first | (rintro e w3 ⟨he, h1, g1⟩; have he' := he) | (rintro e w3 he h1 g1)
  subst he
  have R3 : Hid (Cu g kb o c bs s3 w3) := h1
  have G3 : Hid (w.grownBy w3 (some g)) := gb_trans G2.out g1
  have X3 : Hid (w3.heap[r]? = some (.cells #[.int .u8 0, .int .u64 0, .string ⟨#[]⟩] 48 (0, 0))) := (g1.block r (blk_in' X2.out) (by have := NG.out; intro q; cases q; exact this rfl)).trans X2.out
  clear h1 g1 R2 G2 X2 D3
  go_wp2_with (refine wpList_store_row rfl 48 _ _ rfl r _ rfl rfl _ _ X3.out (show (Tryz.prog.info? 48).map (·.size) = some 3 by kernel_rfl) rfl (by kernel_rfl) ?_)
  have hz := setRow_heap w3 r _ (#[.int .u8 v1, .int .u64 v2, .string v3]) _ _ X3.out
  refine bodyPost_ret (v := .agg #[.int .u8 v1, .int .u64 v2, .string v3]) (results_cell_row Tryz.results62 _ _ r _ _ (0, 0) _ (by first | rfl | simp [Act.put]) hz Tryz.underlying48 rfl (show (Tryz.prog.info? 48).map (·.size) = some 3 by kernel_rfl)) rfl ?_
  exact ⟨rfl, R3.out.row NG.out NK.out _, gb_row G3.out RG.out _⟩
set_option maxRecDepth 20000 in
set_option maxHeartbeats 8000000 in
theorem opCG (g kb o c : Nat) (bs : List Nat) (s s1 s2 s3 s4 s5 s6 s7 s8 : RS) (v1 : Int) (v2 : Int) (v3 : Int) (v4 : Int) (v5 : Int) (v6 : Int) (v7 : Int) (v8 : Nat × Int × ByteArray) 
    (C1 : ∀ W, Cu g kb o c bs s W → Calls Tryz.prog 59 #[.pointer (some ⟨g, 0, none⟩)] W fun e w' => e = .returned (.int .i64 v1) ∧ Cu g kb o c bs s1 w' ∧ W.grownBy w' (some g))
    (C2 : ∀ W, Cu g kb o c bs s1 W → Calls Tryz.prog 59 #[.pointer (some ⟨g, 0, none⟩)] W fun e w' => e = .returned (.int .i64 v2) ∧ Cu g kb o c bs s2 w' ∧ W.grownBy w' (some g))
    (C3 : ∀ W, Cu g kb o c bs s2 W → Calls Tryz.prog 59 #[.pointer (some ⟨g, 0, none⟩)] W fun e w' => e = .returned (.int .i64 v3) ∧ Cu g kb o c bs s3 w' ∧ W.grownBy w' (some g))
    (C4 : ∀ W, Cu g kb o c bs s3 W → Calls Tryz.prog 59 #[.pointer (some ⟨g, 0, none⟩)] W fun e w' => e = .returned (.int .i64 v4) ∧ Cu g kb o c bs s4 w' ∧ W.grownBy w' (some g))
    (C5 : ∀ W, Cu g kb o c bs s4 W → Calls Tryz.prog 59 #[.pointer (some ⟨g, 0, none⟩)] W fun e w' => e = .returned (.int .i64 v5) ∧ Cu g kb o c bs s5 w' ∧ W.grownBy w' (some g))
    (C6 : ∀ W, Cu g kb o c bs s5 W → Calls Tryz.prog 59 #[.pointer (some ⟨g, 0, none⟩)] W fun e w' => e = .returned (.int .i64 v6) ∧ Cu g kb o c bs s6 w' ∧ W.grownBy w' (some g))
    (C7 : ∀ W, Cu g kb o c bs s6 W → Calls Tryz.prog 59 #[.pointer (some ⟨g, 0, none⟩)] W fun e w' => e = .returned (.int .i64 v7) ∧ Cu g kb o c bs s7 w' ∧ W.grownBy w' (some g))
    (C8 : ∀ W, Cu g kb o c bs s7 W → Calls Tryz.prog 62 #[.pointer (some ⟨g, 0, none⟩)] W fun e w' => e = .returned (.agg #[.int .u8 v8.1, .int .u64 v8.2.1, .string v8.2.2]) ∧ Cu g kb o c bs s8 w' ∧ W.grownBy w' (some g))
    (w : World) (h : Cu g kb o c bs s w) :
    Calls Tryz.prog 63 #[.pointer (some ⟨g, 0, none⟩)] w fun e w' => (e = .returned (.agg #[.int .i64 v1, .int .i64 v2, .int .i64 v3, .int .i64 v4, .int .i64 v5, .int .i64 v6, .int .i64 v7, .int .u8 v8.1, .int .u64 v8.2.1, .string v8.2.2])) ∧ Cu g kb o c bs s8 w' ∧ w.grownBy w' (some g) := by
  obtain ⟨r, hr⟩ : ∃ r, w.heap.size = r := ⟨_, rfl⟩
  obtain ⟨A0, e0⟩ : ∃ A0, A0 = w.alloc (.cells #[.int .i64 0, .int .i64 0, .int .i64 0, .int .i64 0, .int .i64 0, .int .i64 0, .int .i64 0, .int .u8 0, .int .u64 0, .string ⟨#[]⟩] 86 (0, 0)) := ⟨_, rfl⟩
  obtain ⟨AW, eW⟩ : ∃ AW, AW = A0.alloc (.cells #[.int .i64 0, .int .i64 0, .int .i64 0, .int .i64 0, .int .i64 0, .int .i64 0, .int .i64 0, .int .u8 0, .int .u64 0, .string ⟨#[]⟩] 86 (0, 0)) := ⟨_, rfl⟩
  have S0 : A0.heap.size = r + 1 := by rw [e0, ← hr]; simp
  have R0 : Hid (Cu g kb o c bs s AW) := by rw [eW, e0]; exact (h.al _).al _
  have G0 : Hid (w.grownBy AW (some g)) := by rw [eW, e0]; exact gb_trans (gb_alloc _ _ _) (gb_alloc _ _ _)
  have X0 : Hid (AW.heap[r]? = some (.cells #[.int .i64 0, .int .i64 0, .int .i64 0, .int .i64 0, .int .i64 0, .int .i64 0, .int .i64 0, .int .u8 0, .int .u64 0, .string ⟨#[]⟩] 86 (0, 0))) := by
    rw [eW]
    refine ((gb_alloc A0 _ none).block r (by omega) (by simp)).trans ?_
    rw [e0, ← hr]
    exact heap_alloc_last _ _
  have Y0 : Hid (AW.heap[r + 1]? = some (.cells #[.int .i64 0, .int .i64 0, .int .i64 0, .int .i64 0, .int .i64 0, .int .i64 0, .int .i64 0, .int .u8 0, .int .u64 0, .string ⟨#[]⟩] 86 (0, 0))) := by rw [eW, ← S0]; exact heap_alloc_last _ _
  have NG : Hid (r ≠ g ∧ r + 1 ≠ g) := by have := h.lt; exact ⟨by omega, by omega⟩
  have RG : Hid (w.heap.size ≤ r) := by show _ ≤ _; omega
  have GR : Hid (g < r) := by have := h.lt; show _ < _; omega
  have NK : Hid (r ≠ kb ∧ r + 1 ≠ kb) := by have := h.kl; exact ⟨by omega, by omega⟩
  have D1 : Hid _ := C1
  have D2 : Hid _ := C2
  have D3 : Hid _ := C3
  have D4 : Hid _ := C4
  have D5 : Hid _ := C5
  have D6 : Hid _ := C6
  have D7 : Hid _ := C7
  have D8 : Hid _ := C8
  clear h C1 C2 C3 C4 C5 C6 C7 C8
  go_enter Tryz.func63, Tryz.ntmps63
  go_upto_region 1 with fail
  rw [← e0]
  clear e0
  go_upto_region 2 with fail
  try rw [S0]
  rw [← eW]
  clear eW S0 hr
  go_wp2_with (go_at_call 59; refine (D1.out _ R0.out).mono ?_)
  first | (rintro e w1 ⟨he, h1, g1⟩; have he' := he) | (rintro e w1 he h1 g1)
  subst he
  have x1 : w1.heap[r]? = some (.cells #[.int .i64 0, .int .i64 0, .int .i64 0, .int .i64 0, .int .i64 0, .int .i64 0, .int .i64 0, .int .u8 0, .int .u64 0, .string ⟨#[]⟩] 86 (0, 0)) := (g1.block r (blk_in' X0.out) (by have := NG.out.1; intro q; cases q; exact this rfl)).trans X0.out
  have a1 : w1.heap[r + 1]? = some (.cells #[.int .i64 0, .int .i64 0, .int .i64 0, .int .i64 0, .int .i64 0, .int .i64 0, .int .i64 0, .int .u8 0, .int .u64 0, .string ⟨#[]⟩] 86 (0, 0)) := (g1.block (r + 1) (blk_in' Y0.out) (by have := NG.out.2; intro q; cases q; exact this rfl)).trans Y0.out
  have b0 : w1.cell? ⟨r + 1, 0, none⟩ = some (.int .i64 0) := by simp [World.cell?, a1]
  have z0 : w1.frozen? ⟨r + 1, 0, none⟩ = false := by simp [World.frozen?, a1]
  have U1 : Hid (w1.heap[r]? = some (.cells #[.int .i64 0, .int .i64 0, .int .i64 0, .int .i64 0, .int .i64 0, .int .i64 0, .int .i64 0, .int .u8 0, .int .u64 0, .string ⟨#[]⟩] 86 (0, 0))) := x1
  have U2 : Hid (w1.heap[r + 1]? = some (.cells #[.int .i64 0, .int .i64 0, .int .i64 0, .int .i64 0, .int .i64 0, .int .i64 0, .int .i64 0, .int .u8 0, .int .u64 0, .string ⟨#[]⟩] 86 (0, 0))) := a1
  have U3 : Hid (Cu g kb o c bs s1 w1) := h1
  have U4 : Hid (AW.grownBy w1 (some g)) := g1
  clear x1 a1 h1 g1 X0 Y0
  go_upto_region 3 with fail
  obtain ⟨V1, eV⟩ : ∃ V, V = (w1.setCell ⟨r + 1, 0, none⟩ (.int .i64 v1)) := ⟨_, rfl⟩
  rw [← eV]
  have R1 : Hid (Cu g kb o c bs s1 V1) := by rw [eV]; exact (Cu.setr U3.out NG.out.2 NK.out.2 _ _)
  have G1 : Hid (w.grownBy V1 (some g)) := by rw [eV]; exact (gb_setr (gb_trans G0.out U4.out) (Nat.le_succ_of_le RG.out) _ _)
  have K1 : Hid (w1.grownBy V1 (some (r + 1))) := by rw [eV]; exact gb_set _ _ _ _
  have X1 : Hid (V1.heap[r]? = some (.cells #[.int .i64 0, .int .i64 0, .int .i64 0, .int .i64 0, .int .i64 0, .int .i64 0, .int .i64 0, .int .u8 0, .int .u64 0, .string ⟨#[]⟩] 86 (0, 0))) := (K1.out.block r (blk_in' U1.out) (by intro q; have := Option.some.inj q; omega)).trans U1.out
  have Y1 : Hid (V1.heap[r + 1]? = some (.cells #[.int .i64 v1, .int .i64 0, .int .i64 0, .int .i64 0, .int .i64 0, .int .i64 0, .int .i64 0, .int .u8 0, .int .u64 0, .string ⟨#[]⟩] 86 (0, 0))) := by rw [eV]; show _ = _; simp [World.setCell, Array.getElem?_modify, U2.out]
  have S1 : Hid (r + 2 ≤ V1.heap.size) := blk_in' Y1.out
  clear eV U1 U2 U3 U4 b0 z0 R0 G0 D1 K1
  go_wp2_with (go_at_call 59; refine (D2.out _ R1.out).mono ?_)
  first | (rintro e w2 ⟨he, h1, g1⟩; have he' := he) | (rintro e w2 he h1 g1)
  subst he
  have x1 : w2.heap[r]? = some (.cells #[.int .i64 0, .int .i64 0, .int .i64 0, .int .i64 0, .int .i64 0, .int .i64 0, .int .i64 0, .int .u8 0, .int .u64 0, .string ⟨#[]⟩] 86 (0, 0)) := (g1.block r (blk_in' X1.out) (by have := NG.out.1; intro q; cases q; exact this rfl)).trans X1.out
  have a1 : w2.heap[r + 1]? = some (.cells #[.int .i64 v1, .int .i64 0, .int .i64 0, .int .i64 0, .int .i64 0, .int .i64 0, .int .i64 0, .int .u8 0, .int .u64 0, .string ⟨#[]⟩] 86 (0, 0)) := (g1.block (r + 1) (blk_in' Y1.out) (by have := NG.out.2; intro q; cases q; exact this rfl)).trans Y1.out
  have b1 : w2.cell? ⟨r + 1, 1, none⟩ = some (.int .i64 0) := by simp [World.cell?, a1]
  have z1 : w2.frozen? ⟨r + 1, 1, none⟩ = false := by simp [World.frozen?, a1]
  have U1 : Hid (w2.heap[r]? = some (.cells #[.int .i64 0, .int .i64 0, .int .i64 0, .int .i64 0, .int .i64 0, .int .i64 0, .int .i64 0, .int .u8 0, .int .u64 0, .string ⟨#[]⟩] 86 (0, 0))) := x1
  have U2 : Hid (w2.heap[r + 1]? = some (.cells #[.int .i64 v1, .int .i64 0, .int .i64 0, .int .i64 0, .int .i64 0, .int .i64 0, .int .i64 0, .int .u8 0, .int .u64 0, .string ⟨#[]⟩] 86 (0, 0))) := a1
  have U3 : Hid (Cu g kb o c bs s2 w2) := h1
  have U4 : Hid (V1.grownBy w2 (some g)) := g1
  clear x1 a1 h1 g1 X1 Y1
  go_upto_region 4 with fail
  obtain ⟨V2, eV⟩ : ∃ V, V = (w2.setCell ⟨r + 1, 1, none⟩ (.int .i64 v2)) := ⟨_, rfl⟩
  rw [← eV]
  have R2 : Hid (Cu g kb o c bs s2 V2) := by rw [eV]; exact (Cu.setr U3.out NG.out.2 NK.out.2 _ _)
  have G2 : Hid (w.grownBy V2 (some g)) := by rw [eV]; exact (gb_setr (gb_trans G1.out U4.out) (Nat.le_succ_of_le RG.out) _ _)
  have K2 : Hid (w2.grownBy V2 (some (r + 1))) := by rw [eV]; exact gb_set _ _ _ _
  have X2 : Hid (V2.heap[r]? = some (.cells #[.int .i64 0, .int .i64 0, .int .i64 0, .int .i64 0, .int .i64 0, .int .i64 0, .int .i64 0, .int .u8 0, .int .u64 0, .string ⟨#[]⟩] 86 (0, 0))) := (K2.out.block r (blk_in' U1.out) (by intro q; have := Option.some.inj q; omega)).trans U1.out
  have Y2 : Hid (V2.heap[r + 1]? = some (.cells #[.int .i64 v1, .int .i64 v2, .int .i64 0, .int .i64 0, .int .i64 0, .int .i64 0, .int .i64 0, .int .u8 0, .int .u64 0, .string ⟨#[]⟩] 86 (0, 0))) := by rw [eV]; show _ = _; simp [World.setCell, Array.getElem?_modify, U2.out]
  have S2 : Hid (r + 2 ≤ V2.heap.size) := blk_in' Y2.out
  clear eV U1 U2 U3 U4 b1 z1 R1 G1 D2 S1 K2
  go_wp2_with (go_at_call 59; refine (D3.out _ R2.out).mono ?_)
  first | (rintro e w3 ⟨he, h1, g1⟩; have he' := he) | (rintro e w3 he h1 g1)
  subst he
  have x1 : w3.heap[r]? = some (.cells #[.int .i64 0, .int .i64 0, .int .i64 0, .int .i64 0, .int .i64 0, .int .i64 0, .int .i64 0, .int .u8 0, .int .u64 0, .string ⟨#[]⟩] 86 (0, 0)) := (g1.block r (blk_in' X2.out) (by have := NG.out.1; intro q; cases q; exact this rfl)).trans X2.out
  have a1 : w3.heap[r + 1]? = some (.cells #[.int .i64 v1, .int .i64 v2, .int .i64 0, .int .i64 0, .int .i64 0, .int .i64 0, .int .i64 0, .int .u8 0, .int .u64 0, .string ⟨#[]⟩] 86 (0, 0)) := (g1.block (r + 1) (blk_in' Y2.out) (by have := NG.out.2; intro q; cases q; exact this rfl)).trans Y2.out
  have b2 : w3.cell? ⟨r + 1, 2, none⟩ = some (.int .i64 0) := by simp [World.cell?, a1]
  have z2 : w3.frozen? ⟨r + 1, 2, none⟩ = false := by simp [World.frozen?, a1]
  have U1 : Hid (w3.heap[r]? = some (.cells #[.int .i64 0, .int .i64 0, .int .i64 0, .int .i64 0, .int .i64 0, .int .i64 0, .int .i64 0, .int .u8 0, .int .u64 0, .string ⟨#[]⟩] 86 (0, 0))) := x1
  have U2 : Hid (w3.heap[r + 1]? = some (.cells #[.int .i64 v1, .int .i64 v2, .int .i64 0, .int .i64 0, .int .i64 0, .int .i64 0, .int .i64 0, .int .u8 0, .int .u64 0, .string ⟨#[]⟩] 86 (0, 0))) := a1
  have U3 : Hid (Cu g kb o c bs s3 w3) := h1
  have U4 : Hid (V2.grownBy w3 (some g)) := g1
  clear x1 a1 h1 g1 X2 Y2
  go_upto_region 5 with fail
  obtain ⟨V3, eV⟩ : ∃ V, V = (w3.setCell ⟨r + 1, 2, none⟩ (.int .i64 v3)) := ⟨_, rfl⟩
  rw [← eV]
  have R3 : Hid (Cu g kb o c bs s3 V3) := by rw [eV]; exact (Cu.setr U3.out NG.out.2 NK.out.2 _ _)
  have G3 : Hid (w.grownBy V3 (some g)) := by rw [eV]; exact (gb_setr (gb_trans G2.out U4.out) (Nat.le_succ_of_le RG.out) _ _)
  have K3 : Hid (w3.grownBy V3 (some (r + 1))) := by rw [eV]; exact gb_set _ _ _ _
  have X3 : Hid (V3.heap[r]? = some (.cells #[.int .i64 0, .int .i64 0, .int .i64 0, .int .i64 0, .int .i64 0, .int .i64 0, .int .i64 0, .int .u8 0, .int .u64 0, .string ⟨#[]⟩] 86 (0, 0))) := (K3.out.block r (blk_in' U1.out) (by intro q; have := Option.some.inj q; omega)).trans U1.out
  have Y3 : Hid (V3.heap[r + 1]? = some (.cells #[.int .i64 v1, .int .i64 v2, .int .i64 v3, .int .i64 0, .int .i64 0, .int .i64 0, .int .i64 0, .int .u8 0, .int .u64 0, .string ⟨#[]⟩] 86 (0, 0))) := by rw [eV]; show _ = _; simp [World.setCell, Array.getElem?_modify, U2.out]
  have S3 : Hid (r + 2 ≤ V3.heap.size) := blk_in' Y3.out
  clear eV U1 U2 U3 U4 b2 z2 R2 G2 D3 S2 K3
  go_wp2_with (go_at_call 59; refine (D4.out _ R3.out).mono ?_)
  first | (rintro e w4 ⟨he, h1, g1⟩; have he' := he) | (rintro e w4 he h1 g1)
  subst he
  have x1 : w4.heap[r]? = some (.cells #[.int .i64 0, .int .i64 0, .int .i64 0, .int .i64 0, .int .i64 0, .int .i64 0, .int .i64 0, .int .u8 0, .int .u64 0, .string ⟨#[]⟩] 86 (0, 0)) := (g1.block r (blk_in' X3.out) (by have := NG.out.1; intro q; cases q; exact this rfl)).trans X3.out
  have a1 : w4.heap[r + 1]? = some (.cells #[.int .i64 v1, .int .i64 v2, .int .i64 v3, .int .i64 0, .int .i64 0, .int .i64 0, .int .i64 0, .int .u8 0, .int .u64 0, .string ⟨#[]⟩] 86 (0, 0)) := (g1.block (r + 1) (blk_in' Y3.out) (by have := NG.out.2; intro q; cases q; exact this rfl)).trans Y3.out
  have b3 : w4.cell? ⟨r + 1, 3, none⟩ = some (.int .i64 0) := by simp [World.cell?, a1]
  have z3 : w4.frozen? ⟨r + 1, 3, none⟩ = false := by simp [World.frozen?, a1]
  have U1 : Hid (w4.heap[r]? = some (.cells #[.int .i64 0, .int .i64 0, .int .i64 0, .int .i64 0, .int .i64 0, .int .i64 0, .int .i64 0, .int .u8 0, .int .u64 0, .string ⟨#[]⟩] 86 (0, 0))) := x1
  have U2 : Hid (w4.heap[r + 1]? = some (.cells #[.int .i64 v1, .int .i64 v2, .int .i64 v3, .int .i64 0, .int .i64 0, .int .i64 0, .int .i64 0, .int .u8 0, .int .u64 0, .string ⟨#[]⟩] 86 (0, 0))) := a1
  have U3 : Hid (Cu g kb o c bs s4 w4) := h1
  have U4 : Hid (V3.grownBy w4 (some g)) := g1
  clear x1 a1 h1 g1 X3 Y3
  go_upto_region 6 with fail
  obtain ⟨V4, eV⟩ : ∃ V, V = (w4.setCell ⟨r + 1, 3, none⟩ (.int .i64 v4)) := ⟨_, rfl⟩
  rw [← eV]
  have R4 : Hid (Cu g kb o c bs s4 V4) := by rw [eV]; exact (Cu.setr U3.out NG.out.2 NK.out.2 _ _)
  have G4 : Hid (w.grownBy V4 (some g)) := by rw [eV]; exact (gb_setr (gb_trans G3.out U4.out) (Nat.le_succ_of_le RG.out) _ _)
  have K4 : Hid (w4.grownBy V4 (some (r + 1))) := by rw [eV]; exact gb_set _ _ _ _
  have X4 : Hid (V4.heap[r]? = some (.cells #[.int .i64 0, .int .i64 0, .int .i64 0, .int .i64 0, .int .i64 0, .int .i64 0, .int .i64 0, .int .u8 0, .int .u64 0, .string ⟨#[]⟩] 86 (0, 0))) := (K4.out.block r (blk_in' U1.out) (by intro q; have := Option.some.inj q; omega)).trans U1.out
  have Y4 : Hid (V4.heap[r + 1]? = some (.cells #[.int .i64 v1, .int .i64 v2, .int .i64 v3, .int .i64 v4, .int .i64 0, .int .i64 0, .int .i64 0, .int .u8 0, .int .u64 0, .string ⟨#[]⟩] 86 (0, 0))) := by rw [eV]; show _ = _; simp [World.setCell, Array.getElem?_modify, U2.out]
  have S4 : Hid (r + 2 ≤ V4.heap.size) := blk_in' Y4.out
  clear eV U1 U2 U3 U4 b3 z3 R3 G3 D4 S3 K4
  go_wp2_with (go_at_call 59; refine (D5.out _ R4.out).mono ?_)
  first | (rintro e w5 ⟨he, h1, g1⟩; have he' := he) | (rintro e w5 he h1 g1)
  subst he
  have x1 : w5.heap[r]? = some (.cells #[.int .i64 0, .int .i64 0, .int .i64 0, .int .i64 0, .int .i64 0, .int .i64 0, .int .i64 0, .int .u8 0, .int .u64 0, .string ⟨#[]⟩] 86 (0, 0)) := (g1.block r (blk_in' X4.out) (by have := NG.out.1; intro q; cases q; exact this rfl)).trans X4.out
  have a1 : w5.heap[r + 1]? = some (.cells #[.int .i64 v1, .int .i64 v2, .int .i64 v3, .int .i64 v4, .int .i64 0, .int .i64 0, .int .i64 0, .int .u8 0, .int .u64 0, .string ⟨#[]⟩] 86 (0, 0)) := (g1.block (r + 1) (blk_in' Y4.out) (by have := NG.out.2; intro q; cases q; exact this rfl)).trans Y4.out
  have b4 : w5.cell? ⟨r + 1, 4, none⟩ = some (.int .i64 0) := by simp [World.cell?, a1]
  have z4 : w5.frozen? ⟨r + 1, 4, none⟩ = false := by simp [World.frozen?, a1]
  have U1 : Hid (w5.heap[r]? = some (.cells #[.int .i64 0, .int .i64 0, .int .i64 0, .int .i64 0, .int .i64 0, .int .i64 0, .int .i64 0, .int .u8 0, .int .u64 0, .string ⟨#[]⟩] 86 (0, 0))) := x1
  have U2 : Hid (w5.heap[r + 1]? = some (.cells #[.int .i64 v1, .int .i64 v2, .int .i64 v3, .int .i64 v4, .int .i64 0, .int .i64 0, .int .i64 0, .int .u8 0, .int .u64 0, .string ⟨#[]⟩] 86 (0, 0))) := a1
  have U3 : Hid (Cu g kb o c bs s5 w5) := h1
  have U4 : Hid (V4.grownBy w5 (some g)) := g1
  clear x1 a1 h1 g1 X4 Y4
  go_upto_region 7 with fail
  obtain ⟨V5, eV⟩ : ∃ V, V = (w5.setCell ⟨r + 1, 4, none⟩ (.int .i64 v5)) := ⟨_, rfl⟩
  rw [← eV]
  have R5 : Hid (Cu g kb o c bs s5 V5) := by rw [eV]; exact (Cu.setr U3.out NG.out.2 NK.out.2 _ _)
  have G5 : Hid (w.grownBy V5 (some g)) := by rw [eV]; exact (gb_setr (gb_trans G4.out U4.out) (Nat.le_succ_of_le RG.out) _ _)
  have K5 : Hid (w5.grownBy V5 (some (r + 1))) := by rw [eV]; exact gb_set _ _ _ _
  have X5 : Hid (V5.heap[r]? = some (.cells #[.int .i64 0, .int .i64 0, .int .i64 0, .int .i64 0, .int .i64 0, .int .i64 0, .int .i64 0, .int .u8 0, .int .u64 0, .string ⟨#[]⟩] 86 (0, 0))) := (K5.out.block r (blk_in' U1.out) (by intro q; have := Option.some.inj q; omega)).trans U1.out
  have Y5 : Hid (V5.heap[r + 1]? = some (.cells #[.int .i64 v1, .int .i64 v2, .int .i64 v3, .int .i64 v4, .int .i64 v5, .int .i64 0, .int .i64 0, .int .u8 0, .int .u64 0, .string ⟨#[]⟩] 86 (0, 0))) := by rw [eV]; show _ = _; simp [World.setCell, Array.getElem?_modify, U2.out]
  have S5 : Hid (r + 2 ≤ V5.heap.size) := blk_in' Y5.out
  clear eV U1 U2 U3 U4 b4 z4 R4 G4 D5 S4 K5
  go_wp2_with (go_at_call 59; refine (D6.out _ R5.out).mono ?_)
  first | (rintro e w6 ⟨he, h1, g1⟩; have he' := he) | (rintro e w6 he h1 g1)
  subst he
  have x1 : w6.heap[r]? = some (.cells #[.int .i64 0, .int .i64 0, .int .i64 0, .int .i64 0, .int .i64 0, .int .i64 0, .int .i64 0, .int .u8 0, .int .u64 0, .string ⟨#[]⟩] 86 (0, 0)) := (g1.block r (blk_in' X5.out) (by have := NG.out.1; intro q; cases q; exact this rfl)).trans X5.out
  have a1 : w6.heap[r + 1]? = some (.cells #[.int .i64 v1, .int .i64 v2, .int .i64 v3, .int .i64 v4, .int .i64 v5, .int .i64 0, .int .i64 0, .int .u8 0, .int .u64 0, .string ⟨#[]⟩] 86 (0, 0)) := (g1.block (r + 1) (blk_in' Y5.out) (by have := NG.out.2; intro q; cases q; exact this rfl)).trans Y5.out
  have b5 : w6.cell? ⟨r + 1, 5, none⟩ = some (.int .i64 0) := by simp [World.cell?, a1]
  have z5 : w6.frozen? ⟨r + 1, 5, none⟩ = false := by simp [World.frozen?, a1]
  have U1 : Hid (w6.heap[r]? = some (.cells #[.int .i64 0, .int .i64 0, .int .i64 0, .int .i64 0, .int .i64 0, .int .i64 0, .int .i64 0, .int .u8 0, .int .u64 0, .string ⟨#[]⟩] 86 (0, 0))) := x1
  have U2 : Hid (w6.heap[r + 1]? = some (.cells #[.int .i64 v1, .int .i64 v2, .int .i64 v3, .int .i64 v4, .int .i64 v5, .int .i64 0, .int .i64 0, .int .u8 0, .int .u64 0, .string ⟨#[]⟩] 86 (0, 0))) := a1
  have U3 : Hid (Cu g kb o c bs s6 w6) := h1
  have U4 : Hid (V5.grownBy w6 (some g)) := g1
  clear x1 a1 h1 g1 X5 Y5
  go_upto_region 8 with fail
  obtain ⟨V6, eV⟩ : ∃ V, V = (w6.setCell ⟨r + 1, 5, none⟩ (.int .i64 v6)) := ⟨_, rfl⟩
  rw [← eV]
  have R6 : Hid (Cu g kb o c bs s6 V6) := by rw [eV]; exact (Cu.setr U3.out NG.out.2 NK.out.2 _ _)
  have G6 : Hid (w.grownBy V6 (some g)) := by rw [eV]; exact (gb_setr (gb_trans G5.out U4.out) (Nat.le_succ_of_le RG.out) _ _)
  have K6 : Hid (w6.grownBy V6 (some (r + 1))) := by rw [eV]; exact gb_set _ _ _ _
  have X6 : Hid (V6.heap[r]? = some (.cells #[.int .i64 0, .int .i64 0, .int .i64 0, .int .i64 0, .int .i64 0, .int .i64 0, .int .i64 0, .int .u8 0, .int .u64 0, .string ⟨#[]⟩] 86 (0, 0))) := (K6.out.block r (blk_in' U1.out) (by intro q; have := Option.some.inj q; omega)).trans U1.out
  have Y6 : Hid (V6.heap[r + 1]? = some (.cells #[.int .i64 v1, .int .i64 v2, .int .i64 v3, .int .i64 v4, .int .i64 v5, .int .i64 v6, .int .i64 0, .int .u8 0, .int .u64 0, .string ⟨#[]⟩] 86 (0, 0))) := by rw [eV]; show _ = _; simp [World.setCell, Array.getElem?_modify, U2.out]
  have S6 : Hid (r + 2 ≤ V6.heap.size) := blk_in' Y6.out
  clear eV U1 U2 U3 U4 b5 z5 R5 G5 D6 S5 K6
  go_wp2_with (go_at_call 59; refine (D7.out _ R6.out).mono ?_)
  first | (rintro e w7 ⟨he, h1, g1⟩; have he' := he) | (rintro e w7 he h1 g1)
  subst he
  have x1 : w7.heap[r]? = some (.cells #[.int .i64 0, .int .i64 0, .int .i64 0, .int .i64 0, .int .i64 0, .int .i64 0, .int .i64 0, .int .u8 0, .int .u64 0, .string ⟨#[]⟩] 86 (0, 0)) := (g1.block r (blk_in' X6.out) (by have := NG.out.1; intro q; cases q; exact this rfl)).trans X6.out
  have a1 : w7.heap[r + 1]? = some (.cells #[.int .i64 v1, .int .i64 v2, .int .i64 v3, .int .i64 v4, .int .i64 v5, .int .i64 v6, .int .i64 0, .int .u8 0, .int .u64 0, .string ⟨#[]⟩] 86 (0, 0)) := (g1.block (r + 1) (blk_in' Y6.out) (by have := NG.out.2; intro q; cases q; exact this rfl)).trans Y6.out
  have b6 : w7.cell? ⟨r + 1, 6, none⟩ = some (.int .i64 0) := by simp [World.cell?, a1]
  have z6 : w7.frozen? ⟨r + 1, 6, none⟩ = false := by simp [World.frozen?, a1]
  have U1 : Hid (w7.heap[r]? = some (.cells #[.int .i64 0, .int .i64 0, .int .i64 0, .int .i64 0, .int .i64 0, .int .i64 0, .int .i64 0, .int .u8 0, .int .u64 0, .string ⟨#[]⟩] 86 (0, 0))) := x1
  have U2 : Hid (w7.heap[r + 1]? = some (.cells #[.int .i64 v1, .int .i64 v2, .int .i64 v3, .int .i64 v4, .int .i64 v5, .int .i64 v6, .int .i64 0, .int .u8 0, .int .u64 0, .string ⟨#[]⟩] 86 (0, 0))) := a1
  have U3 : Hid (Cu g kb o c bs s7 w7) := h1
  have U4 : Hid (V6.grownBy w7 (some g)) := g1
  clear x1 a1 h1 g1 X6 Y6
  go_upto_region 9 with fail
  obtain ⟨V7, eV⟩ : ∃ V, V = (w7.setCell ⟨r + 1, 6, none⟩ (.int .i64 v7)) := ⟨_, rfl⟩
  rw [← eV]
  have R7 : Hid (Cu g kb o c bs s7 V7) := by rw [eV]; exact (Cu.setr U3.out NG.out.2 NK.out.2 _ _)
  have G7 : Hid (w.grownBy V7 (some g)) := by rw [eV]; exact (gb_setr (gb_trans G6.out U4.out) (Nat.le_succ_of_le RG.out) _ _)
  have K7 : Hid (w7.grownBy V7 (some (r + 1))) := by rw [eV]; exact gb_set _ _ _ _
  have X7 : Hid (V7.heap[r]? = some (.cells #[.int .i64 0, .int .i64 0, .int .i64 0, .int .i64 0, .int .i64 0, .int .i64 0, .int .i64 0, .int .u8 0, .int .u64 0, .string ⟨#[]⟩] 86 (0, 0))) := (K7.out.block r (blk_in' U1.out) (by intro q; have := Option.some.inj q; omega)).trans U1.out
  have Y7 : Hid (V7.heap[r + 1]? = some (.cells #[.int .i64 v1, .int .i64 v2, .int .i64 v3, .int .i64 v4, .int .i64 v5, .int .i64 v6, .int .i64 v7, .int .u8 0, .int .u64 0, .string ⟨#[]⟩] 86 (0, 0))) := by rw [eV]; show _ = _; simp [World.setCell, Array.getElem?_modify, U2.out]
  have S7 : Hid (r + 2 ≤ V7.heap.size) := blk_in' Y7.out
  clear eV U1 U2 U3 U4 b6 z6 R6 G6 D7 S6 K7
  go_wp2_with (go_at_call 62; refine (D8.out _ R7.out).mono ?_)
  first | (rintro e w8 ⟨he, h1, g1⟩; have he' := he) | (rintro e w8 he h1 g1)
  subst he
  have x1 : w8.heap[r]? = some (.cells #[.int .i64 0, .int .i64 0, .int .i64 0, .int .i64 0, .int .i64 0, .int .i64 0, .int .i64 0, .int .u8 0, .int .u64 0, .string ⟨#[]⟩] 86 (0, 0)) := (g1.block r (blk_in' X7.out) (by have := NG.out.1; intro q; cases q; exact this rfl)).trans X7.out
  have a1 : w8.heap[r + 1]? = some (.cells #[.int .i64 v1, .int .i64 v2, .int .i64 v3, .int .i64 v4, .int .i64 v5, .int .i64 v6, .int .i64 v7, .int .u8 0, .int .u64 0, .string ⟨#[]⟩] 86 (0, 0)) := (g1.block (r + 1) (blk_in' Y7.out) (by have := NG.out.2; intro q; cases q; exact this rfl)).trans Y7.out
  have b7 : w8.cell? ⟨r + 1, 7, none⟩ = some (.int .u8 0) := by simp [World.cell?, a1]
  have z7 : w8.frozen? ⟨r + 1, 7, none⟩ = false := by simp [World.frozen?, a1]
  have b8 : w8.cell? ⟨r + 1, 8, none⟩ = some (.int .u64 0) := by simp [World.cell?, a1]
  have z8 : w8.frozen? ⟨r + 1, 8, none⟩ = false := by simp [World.frozen?, a1]
  have b9 : w8.cell? ⟨r + 1, 9, none⟩ = some (.string ⟨#[]⟩) := by simp [World.cell?, a1]
  have z9 : w8.frozen? ⟨r + 1, 9, none⟩ = false := by simp [World.frozen?, a1]
  have U1 : Hid (w8.heap[r]? = some (.cells #[.int .i64 0, .int .i64 0, .int .i64 0, .int .i64 0, .int .i64 0, .int .i64 0, .int .i64 0, .int .u8 0, .int .u64 0, .string ⟨#[]⟩] 86 (0, 0))) := x1
  have U2 : Hid (w8.heap[r + 1]? = some (.cells #[.int .i64 v1, .int .i64 v2, .int .i64 v3, .int .i64 v4, .int .i64 v5, .int .i64 v6, .int .i64 v7, .int .u8 0, .int .u64 0, .string ⟨#[]⟩] 86 (0, 0))) := a1
  have U3 : Hid (Cu g kb o c bs s8 w8) := h1
  have U4 : Hid (V7.grownBy w8 (some g)) := g1
  clear x1 a1 h1 g1 X7 Y7
  go_upto_region 10 with fail
  obtain ⟨V8, eV⟩ : ∃ V, V = (((w8.setCell ⟨r + 1, 7, none⟩ (.int .u8 v8.1)).setCell ⟨r + 1, 8, none⟩ (.int .u64 v8.2.1)).setCell ⟨r + 1, 9, none⟩ (.string v8.2.2)) := ⟨_, rfl⟩
  rw [← eV]
  have R8 : Hid (Cu g kb o c bs s8 V8) := by rw [eV]; exact (Cu.setr (Cu.setr (Cu.setr U3.out NG.out.2 NK.out.2 _ _) NG.out.2 NK.out.2 _ _) NG.out.2 NK.out.2 _ _)
  have G8 : Hid (w.grownBy V8 (some g)) := by rw [eV]; exact (gb_setr (gb_setr (gb_setr (gb_trans G7.out U4.out) (Nat.le_succ_of_le RG.out) _ _) (Nat.le_succ_of_le RG.out) _ _) (Nat.le_succ_of_le RG.out) _ _)
  have K8 : Hid (w8.grownBy V8 (some (r + 1))) := by rw [eV]; exact gb_trans (gb_trans (gb_set _ _ _ _) (gb_set _ _ _ _)) (gb_set _ _ _ _)
  have X8 : Hid (V8.heap[r]? = some (.cells #[.int .i64 0, .int .i64 0, .int .i64 0, .int .i64 0, .int .i64 0, .int .i64 0, .int .i64 0, .int .u8 0, .int .u64 0, .string ⟨#[]⟩] 86 (0, 0))) := (K8.out.block r (blk_in' U1.out) (by intro q; have := Option.some.inj q; omega)).trans U1.out
  have Y8 : Hid (V8.heap[r + 1]? = some (.cells #[.int .i64 v1, .int .i64 v2, .int .i64 v3, .int .i64 v4, .int .i64 v5, .int .i64 v6, .int .i64 v7, .int .u8 v8.1, .int .u64 v8.2.1, .string v8.2.2] 86 (0, 0))) := by rw [eV]; show _ = _; simp [World.setCell, Array.getElem?_modify, U2.out]
  have S8 : Hid (r + 2 ≤ V8.heap.size) := blk_in' Y8.out
  clear eV U1 U2 U3 U4 b7 z7 b8 z8 b9 z9 R7 G7 D8 S7 K8
  have b0 : V8.cell? ⟨r + 1, 0, none⟩ = some (.int .i64 v1) := by simp [World.cell?, Y8.out]
  have b1 : V8.cell? ⟨r + 1, 1, none⟩ = some (.int .i64 v2) := by simp [World.cell?, Y8.out]
  have b2 : V8.cell? ⟨r + 1, 2, none⟩ = some (.int .i64 v3) := by simp [World.cell?, Y8.out]
  have b3 : V8.cell? ⟨r + 1, 3, none⟩ = some (.int .i64 v4) := by simp [World.cell?, Y8.out]
  have b4 : V8.cell? ⟨r + 1, 4, none⟩ = some (.int .i64 v5) := by simp [World.cell?, Y8.out]
  have b5 : V8.cell? ⟨r + 1, 5, none⟩ = some (.int .i64 v6) := by simp [World.cell?, Y8.out]
  have b6 : V8.cell? ⟨r + 1, 6, none⟩ = some (.int .i64 v7) := by simp [World.cell?, Y8.out]
  have b7 : V8.cell? ⟨r + 1, 7, none⟩ = some (.int .u8 v8.1) := by simp [World.cell?, Y8.out]
  have b8 : V8.cell? ⟨r + 1, 8, none⟩ = some (.int .u64 v8.2.1) := by simp [World.cell?, Y8.out]
  have b9 : V8.cell? ⟨r + 1, 9, none⟩ = some (.string v8.2.2) := by simp [World.cell?, Y8.out]
  go_wp2_with (refine wpList_store_row rfl 86 _ _ rfl r _ rfl rfl _ _ X8.out (show (Tryz.prog.info? 86).map (·.size) = some 10 by kernel_rfl) rfl (by kernel_rfl) ?_)
  have hz := setRow_heap V8 r _ #[.int .i64 v1, .int .i64 v2, .int .i64 v3, .int .i64 v4, .int .i64 v5, .int .i64 v6, .int .i64 v7, .int .u8 v8.1, .int .u64 v8.2.1, .string v8.2.2] _ _ X8.out
  refine bodyPost_ret (v := .agg #[.int .i64 v1, .int .i64 v2, .int .i64 v3, .int .i64 v4, .int .i64 v5, .int .i64 v6, .int .i64 v7, .int .u8 v8.1, .int .u64 v8.2.1, .string v8.2.2]) (results_cell_row Tryz.results63 _ _ r _ _ (0, 0) _ (by first | rfl | simp [Act.put]) hz Tryz.underlying86 rfl (show (Tryz.prog.info? 86).map (·.size) = some 10 by kernel_rfl)) rfl ?_
  exact ⟨rfl, R8.out.row NG.out.1 NK.out.1 _, gb_row G8.out RG.out _⟩
set_option maxRecDepth 20000 in
set_option maxHeartbeats 8000000 in
theorem cellCG (g kb o c : Nat) (bs : List Nat) (s s1 s2 s3 s4 s5 s6 s7 s8 s9 : RS) (v1 : Nat) (v2 : Bool) (v3 : Int) (v4 : Int) (v5 : Int) (v6 : Nat × Int × ByteArray) (v7 : Bool) (v8 : Nat) (v9 : ByteArray) (h8 : IntKind.u8.wrap (v1 : Int) = (v1 : Int))
    (C1 : ∀ W, Cu g kb o c bs s W → Calls Tryz.prog 60 #[.pointer (some ⟨g, 0, none⟩)] W fun e w' => e = .returned (.int .i64 v1) ∧ Cu g kb o c bs s1 w' ∧ W.grownBy w' (some g))
    (C2 : ∀ W, Cu g kb o c bs s1 W → Calls Tryz.prog 61 #[.pointer (some ⟨g, 0, none⟩)] W fun e w' => e = .returned (.bool v2) ∧ Cu g kb o c bs s2 w' ∧ W.grownBy w' (some g))
    (C3 : ∀ W, Cu g kb o c bs s2 W → Calls Tryz.prog 59 #[.pointer (some ⟨g, 0, none⟩)] W fun e w' => e = .returned (.int .i64 v3) ∧ Cu g kb o c bs s3 w' ∧ W.grownBy w' (some g))
    (C4 : ∀ W, Cu g kb o c bs s3 W → Calls Tryz.prog 59 #[.pointer (some ⟨g, 0, none⟩)] W fun e w' => e = .returned (.int .i64 v4) ∧ Cu g kb o c bs s4 w' ∧ W.grownBy w' (some g))
    (C5 : ∀ W, Cu g kb o c bs s4 W → Calls Tryz.prog 59 #[.pointer (some ⟨g, 0, none⟩)] W fun e w' => e = .returned (.int .i64 v5) ∧ Cu g kb o c bs s5 w' ∧ W.grownBy w' (some g))
    (C6 : ∀ W, Cu g kb o c bs s5 W → Calls Tryz.prog 62 #[.pointer (some ⟨g, 0, none⟩)] W fun e w' => e = .returned (.agg #[.int .u8 v6.1, .int .u64 v6.2.1, .string v6.2.2]) ∧ Cu g kb o c bs s6 w' ∧ W.grownBy w' (some g))
    (C7 : ∀ W, Cu g kb o c bs s6 W → Calls Tryz.prog 61 #[.pointer (some ⟨g, 0, none⟩)] W fun e w' => e = .returned (.bool v7) ∧ Cu g kb o c bs s7 w' ∧ W.grownBy w' (some g))
    (C8 : ∀ W, Cu g kb o c bs s7 W → Calls Tryz.prog 60 #[.pointer (some ⟨g, 0, none⟩)] W fun e w' => e = .returned (.int .i64 v8) ∧ Cu g kb o c bs s8 w' ∧ W.grownBy w' (some g))
    (C9 : ∀ W, Cu g kb o c bs s8 W → Calls Tryz.prog 28 #[.pointer (some ⟨g, 0, none⟩)] W fun e w' => e = .returned (.string v9) ∧ Cu g kb o c bs s9 w' ∧ W.grownBy w' (some g))
    (w : World) (h : Cu g kb o c bs s w) :
    Calls Tryz.prog 30 #[.pointer (some ⟨g, 0, none⟩)] w fun e w' => (e = .returned (.agg #[.int .u8 v1, .bool v2, .int .i64 v3, .int .i64 v4, .int .i64 v5, .int .u8 v6.1, .int .u64 v6.2.1, .string v6.2.2, .bool v7, .int .i64 v8, .string v9])) ∧ Cu g kb o c bs s9 w' ∧ w.grownBy w' (some g) := by
  obtain ⟨r, hr⟩ : ∃ r, w.heap.size = r := ⟨_, rfl⟩
  obtain ⟨A0, e0⟩ : ∃ A0, A0 = w.alloc (.cells #[.int .u8 0, .bool false, .int .i64 0, .int .i64 0, .int .i64 0, .int .u8 0, .int .u64 0, .string ⟨#[]⟩, .bool false, .int .i64 0, .string ⟨#[]⟩] 50 (0, 0)) := ⟨_, rfl⟩
  obtain ⟨AW, eW⟩ : ∃ AW, AW = A0.alloc (.cells #[.int .u8 0, .bool false, .int .i64 0, .int .i64 0, .int .i64 0, .int .u8 0, .int .u64 0, .string ⟨#[]⟩, .bool false, .int .i64 0, .string ⟨#[]⟩] 50 (0, 0)) := ⟨_, rfl⟩
  have S0 : A0.heap.size = r + 1 := by rw [e0, ← hr]; simp
  have R0 : Hid (Cu g kb o c bs s AW) := by rw [eW, e0]; exact (h.al _).al _
  have G0 : Hid (w.grownBy AW (some g)) := by rw [eW, e0]; exact gb_trans (gb_alloc _ _ _) (gb_alloc _ _ _)
  have X0 : Hid (AW.heap[r]? = some (.cells #[.int .u8 0, .bool false, .int .i64 0, .int .i64 0, .int .i64 0, .int .u8 0, .int .u64 0, .string ⟨#[]⟩, .bool false, .int .i64 0, .string ⟨#[]⟩] 50 (0, 0))) := by
    rw [eW]
    refine ((gb_alloc A0 _ none).block r (by omega) (by simp)).trans ?_
    rw [e0, ← hr]
    exact heap_alloc_last _ _
  have Y0 : Hid (AW.heap[r + 1]? = some (.cells #[.int .u8 0, .bool false, .int .i64 0, .int .i64 0, .int .i64 0, .int .u8 0, .int .u64 0, .string ⟨#[]⟩, .bool false, .int .i64 0, .string ⟨#[]⟩] 50 (0, 0))) := by rw [eW, ← S0]; exact heap_alloc_last _ _
  have NG : Hid (r ≠ g ∧ r + 1 ≠ g) := by have := h.lt; exact ⟨by omega, by omega⟩
  have RG : Hid (w.heap.size ≤ r) := by show _ ≤ _; omega
  have GR : Hid (g < r) := by have := h.lt; show _ < _; omega
  have NK : Hid (r ≠ kb ∧ r + 1 ≠ kb) := by have := h.kl; exact ⟨by omega, by omega⟩
  have D1 : Hid _ := C1
  have D2 : Hid _ := C2
  have D3 : Hid _ := C3
  have D4 : Hid _ := C4
  have D5 : Hid _ := C5
  have D6 : Hid _ := C6
  have D7 : Hid _ := C7
  have D8 : Hid _ := C8
  have D9 : Hid _ := C9
  clear h C1 C2 C3 C4 C5 C6 C7 C8 C9
  go_enter Tryz.func30, Tryz.ntmps30
  go_upto_region 1 with fail
  rw [← e0]
  clear e0
  go_upto_region 2 with fail
  try rw [S0]
  rw [← eW]
  clear eW S0 hr
  go_wp2_with (go_at_call 60; refine (D1.out _ R0.out).mono ?_)
  first | (rintro e w1 ⟨he, h1, g1⟩; have he' := he) | (rintro e w1 he h1 g1)
  subst he
  have x1 : w1.heap[r]? = some (.cells #[.int .u8 0, .bool false, .int .i64 0, .int .i64 0, .int .i64 0, .int .u8 0, .int .u64 0, .string ⟨#[]⟩, .bool false, .int .i64 0, .string ⟨#[]⟩] 50 (0, 0)) := (g1.block r (blk_in' X0.out) (by have := NG.out.1; intro q; cases q; exact this rfl)).trans X0.out
  have a1 : w1.heap[r + 1]? = some (.cells #[.int .u8 0, .bool false, .int .i64 0, .int .i64 0, .int .i64 0, .int .u8 0, .int .u64 0, .string ⟨#[]⟩, .bool false, .int .i64 0, .string ⟨#[]⟩] 50 (0, 0)) := (g1.block (r + 1) (blk_in' Y0.out) (by have := NG.out.2; intro q; cases q; exact this rfl)).trans Y0.out
  have b0 : w1.cell? ⟨r + 1, 0, none⟩ = some (.int .u8 0) := by simp [World.cell?, a1]
  have z0 : w1.frozen? ⟨r + 1, 0, none⟩ = false := by simp [World.frozen?, a1]
  have U1 : Hid (w1.heap[r]? = some (.cells #[.int .u8 0, .bool false, .int .i64 0, .int .i64 0, .int .i64 0, .int .u8 0, .int .u64 0, .string ⟨#[]⟩, .bool false, .int .i64 0, .string ⟨#[]⟩] 50 (0, 0))) := x1
  have U2 : Hid (w1.heap[r + 1]? = some (.cells #[.int .u8 0, .bool false, .int .i64 0, .int .i64 0, .int .i64 0, .int .u8 0, .int .u64 0, .string ⟨#[]⟩, .bool false, .int .i64 0, .string ⟨#[]⟩] 50 (0, 0))) := a1
  have U3 : Hid (Cu g kb o c bs s1 w1) := h1
  have U4 : Hid (AW.grownBy w1 (some g)) := g1
  clear x1 a1 h1 g1 X0 Y0
  go_upto_region 3 with fail
  obtain ⟨V1, eV⟩ : ∃ V, V = (w1.setCell ⟨r + 1, 0, none⟩ (.int .u8 v1)) := ⟨_, rfl⟩
  rw [← eV]
  have R1 : Hid (Cu g kb o c bs s1 V1) := by rw [eV]; exact (Cu.setr U3.out NG.out.2 NK.out.2 _ _)
  have G1 : Hid (w.grownBy V1 (some g)) := by rw [eV]; exact (gb_setr (gb_trans G0.out U4.out) (Nat.le_succ_of_le RG.out) _ _)
  have K1 : Hid (w1.grownBy V1 (some (r + 1))) := by rw [eV]; exact gb_set _ _ _ _
  have X1 : Hid (V1.heap[r]? = some (.cells #[.int .u8 0, .bool false, .int .i64 0, .int .i64 0, .int .i64 0, .int .u8 0, .int .u64 0, .string ⟨#[]⟩, .bool false, .int .i64 0, .string ⟨#[]⟩] 50 (0, 0))) := (K1.out.block r (blk_in' U1.out) (by intro q; have := Option.some.inj q; omega)).trans U1.out
  have Y1 : Hid (V1.heap[r + 1]? = some (.cells #[.int .u8 v1, .bool false, .int .i64 0, .int .i64 0, .int .i64 0, .int .u8 0, .int .u64 0, .string ⟨#[]⟩, .bool false, .int .i64 0, .string ⟨#[]⟩] 50 (0, 0))) := by rw [eV]; show _ = _; simp [World.setCell, Array.getElem?_modify, U2.out]
  have S1 : Hid (r + 2 ≤ V1.heap.size) := blk_in' Y1.out
  clear eV U1 U2 U3 U4 b0 z0 R0 G0 D1 K1
  go_wp2_with (go_at_call 61; refine (D2.out _ R1.out).mono ?_)
  first | (rintro e w2 ⟨he, h1, g1⟩; have he' := he) | (rintro e w2 he h1 g1)
  subst he
  have x1 : w2.heap[r]? = some (.cells #[.int .u8 0, .bool false, .int .i64 0, .int .i64 0, .int .i64 0, .int .u8 0, .int .u64 0, .string ⟨#[]⟩, .bool false, .int .i64 0, .string ⟨#[]⟩] 50 (0, 0)) := (g1.block r (blk_in' X1.out) (by have := NG.out.1; intro q; cases q; exact this rfl)).trans X1.out
  have a1 : w2.heap[r + 1]? = some (.cells #[.int .u8 v1, .bool false, .int .i64 0, .int .i64 0, .int .i64 0, .int .u8 0, .int .u64 0, .string ⟨#[]⟩, .bool false, .int .i64 0, .string ⟨#[]⟩] 50 (0, 0)) := (g1.block (r + 1) (blk_in' Y1.out) (by have := NG.out.2; intro q; cases q; exact this rfl)).trans Y1.out
  have b1 : w2.cell? ⟨r + 1, 1, none⟩ = some (.bool false) := by simp [World.cell?, a1]
  have z1 : w2.frozen? ⟨r + 1, 1, none⟩ = false := by simp [World.frozen?, a1]
  have U1 : Hid (w2.heap[r]? = some (.cells #[.int .u8 0, .bool false, .int .i64 0, .int .i64 0, .int .i64 0, .int .u8 0, .int .u64 0, .string ⟨#[]⟩, .bool false, .int .i64 0, .string ⟨#[]⟩] 50 (0, 0))) := x1
  have U2 : Hid (w2.heap[r + 1]? = some (.cells #[.int .u8 v1, .bool false, .int .i64 0, .int .i64 0, .int .i64 0, .int .u8 0, .int .u64 0, .string ⟨#[]⟩, .bool false, .int .i64 0, .string ⟨#[]⟩] 50 (0, 0))) := a1
  have U3 : Hid (Cu g kb o c bs s2 w2) := h1
  have U4 : Hid (V1.grownBy w2 (some g)) := g1
  clear x1 a1 h1 g1 X1 Y1
  go_upto_region 4 with fail
  obtain ⟨V2, eV⟩ : ∃ V, V = (w2.setCell ⟨r + 1, 1, none⟩ (.bool v2)) := ⟨_, rfl⟩
  rw [← eV]
  have R2 : Hid (Cu g kb o c bs s2 V2) := by rw [eV]; exact (Cu.setr U3.out NG.out.2 NK.out.2 _ _)
  have G2 : Hid (w.grownBy V2 (some g)) := by rw [eV]; exact (gb_setr (gb_trans G1.out U4.out) (Nat.le_succ_of_le RG.out) _ _)
  have K2 : Hid (w2.grownBy V2 (some (r + 1))) := by rw [eV]; exact gb_set _ _ _ _
  have X2 : Hid (V2.heap[r]? = some (.cells #[.int .u8 0, .bool false, .int .i64 0, .int .i64 0, .int .i64 0, .int .u8 0, .int .u64 0, .string ⟨#[]⟩, .bool false, .int .i64 0, .string ⟨#[]⟩] 50 (0, 0))) := (K2.out.block r (blk_in' U1.out) (by intro q; have := Option.some.inj q; omega)).trans U1.out
  have Y2 : Hid (V2.heap[r + 1]? = some (.cells #[.int .u8 v1, .bool v2, .int .i64 0, .int .i64 0, .int .i64 0, .int .u8 0, .int .u64 0, .string ⟨#[]⟩, .bool false, .int .i64 0, .string ⟨#[]⟩] 50 (0, 0))) := by rw [eV]; show _ = _; simp [World.setCell, Array.getElem?_modify, U2.out]
  have S2 : Hid (r + 2 ≤ V2.heap.size) := blk_in' Y2.out
  clear eV U1 U2 U3 U4 b1 z1 R1 G1 D2 S1 K2
  go_wp2_with (go_at_call 59; refine (D3.out _ R2.out).mono ?_)
  first | (rintro e w3 ⟨he, h1, g1⟩; have he' := he) | (rintro e w3 he h1 g1)
  subst he
  have x1 : w3.heap[r]? = some (.cells #[.int .u8 0, .bool false, .int .i64 0, .int .i64 0, .int .i64 0, .int .u8 0, .int .u64 0, .string ⟨#[]⟩, .bool false, .int .i64 0, .string ⟨#[]⟩] 50 (0, 0)) := (g1.block r (blk_in' X2.out) (by have := NG.out.1; intro q; cases q; exact this rfl)).trans X2.out
  have a1 : w3.heap[r + 1]? = some (.cells #[.int .u8 v1, .bool v2, .int .i64 0, .int .i64 0, .int .i64 0, .int .u8 0, .int .u64 0, .string ⟨#[]⟩, .bool false, .int .i64 0, .string ⟨#[]⟩] 50 (0, 0)) := (g1.block (r + 1) (blk_in' Y2.out) (by have := NG.out.2; intro q; cases q; exact this rfl)).trans Y2.out
  have b2 : w3.cell? ⟨r + 1, 2, none⟩ = some (.int .i64 0) := by simp [World.cell?, a1]
  have z2 : w3.frozen? ⟨r + 1, 2, none⟩ = false := by simp [World.frozen?, a1]
  have U1 : Hid (w3.heap[r]? = some (.cells #[.int .u8 0, .bool false, .int .i64 0, .int .i64 0, .int .i64 0, .int .u8 0, .int .u64 0, .string ⟨#[]⟩, .bool false, .int .i64 0, .string ⟨#[]⟩] 50 (0, 0))) := x1
  have U2 : Hid (w3.heap[r + 1]? = some (.cells #[.int .u8 v1, .bool v2, .int .i64 0, .int .i64 0, .int .i64 0, .int .u8 0, .int .u64 0, .string ⟨#[]⟩, .bool false, .int .i64 0, .string ⟨#[]⟩] 50 (0, 0))) := a1
  have U3 : Hid (Cu g kb o c bs s3 w3) := h1
  have U4 : Hid (V2.grownBy w3 (some g)) := g1
  clear x1 a1 h1 g1 X2 Y2
  go_upto_region 5 with fail
  obtain ⟨V3, eV⟩ : ∃ V, V = (w3.setCell ⟨r + 1, 2, none⟩ (.int .i64 v3)) := ⟨_, rfl⟩
  rw [← eV]
  have R3 : Hid (Cu g kb o c bs s3 V3) := by rw [eV]; exact (Cu.setr U3.out NG.out.2 NK.out.2 _ _)
  have G3 : Hid (w.grownBy V3 (some g)) := by rw [eV]; exact (gb_setr (gb_trans G2.out U4.out) (Nat.le_succ_of_le RG.out) _ _)
  have K3 : Hid (w3.grownBy V3 (some (r + 1))) := by rw [eV]; exact gb_set _ _ _ _
  have X3 : Hid (V3.heap[r]? = some (.cells #[.int .u8 0, .bool false, .int .i64 0, .int .i64 0, .int .i64 0, .int .u8 0, .int .u64 0, .string ⟨#[]⟩, .bool false, .int .i64 0, .string ⟨#[]⟩] 50 (0, 0))) := (K3.out.block r (blk_in' U1.out) (by intro q; have := Option.some.inj q; omega)).trans U1.out
  have Y3 : Hid (V3.heap[r + 1]? = some (.cells #[.int .u8 v1, .bool v2, .int .i64 v3, .int .i64 0, .int .i64 0, .int .u8 0, .int .u64 0, .string ⟨#[]⟩, .bool false, .int .i64 0, .string ⟨#[]⟩] 50 (0, 0))) := by rw [eV]; show _ = _; simp [World.setCell, Array.getElem?_modify, U2.out]
  have S3 : Hid (r + 2 ≤ V3.heap.size) := blk_in' Y3.out
  clear eV U1 U2 U3 U4 b2 z2 R2 G2 D3 S2 K3
  go_wp2_with (go_at_call 59; refine (D4.out _ R3.out).mono ?_)
  first | (rintro e w4 ⟨he, h1, g1⟩; have he' := he) | (rintro e w4 he h1 g1)
  subst he
  have x1 : w4.heap[r]? = some (.cells #[.int .u8 0, .bool false, .int .i64 0, .int .i64 0, .int .i64 0, .int .u8 0, .int .u64 0, .string ⟨#[]⟩, .bool false, .int .i64 0, .string ⟨#[]⟩] 50 (0, 0)) := (g1.block r (blk_in' X3.out) (by have := NG.out.1; intro q; cases q; exact this rfl)).trans X3.out
  have a1 : w4.heap[r + 1]? = some (.cells #[.int .u8 v1, .bool v2, .int .i64 v3, .int .i64 0, .int .i64 0, .int .u8 0, .int .u64 0, .string ⟨#[]⟩, .bool false, .int .i64 0, .string ⟨#[]⟩] 50 (0, 0)) := (g1.block (r + 1) (blk_in' Y3.out) (by have := NG.out.2; intro q; cases q; exact this rfl)).trans Y3.out
  have b3 : w4.cell? ⟨r + 1, 3, none⟩ = some (.int .i64 0) := by simp [World.cell?, a1]
  have z3 : w4.frozen? ⟨r + 1, 3, none⟩ = false := by simp [World.frozen?, a1]
  have U1 : Hid (w4.heap[r]? = some (.cells #[.int .u8 0, .bool false, .int .i64 0, .int .i64 0, .int .i64 0, .int .u8 0, .int .u64 0, .string ⟨#[]⟩, .bool false, .int .i64 0, .string ⟨#[]⟩] 50 (0, 0))) := x1
  have U2 : Hid (w4.heap[r + 1]? = some (.cells #[.int .u8 v1, .bool v2, .int .i64 v3, .int .i64 0, .int .i64 0, .int .u8 0, .int .u64 0, .string ⟨#[]⟩, .bool false, .int .i64 0, .string ⟨#[]⟩] 50 (0, 0))) := a1
  have U3 : Hid (Cu g kb o c bs s4 w4) := h1
  have U4 : Hid (V3.grownBy w4 (some g)) := g1
  clear x1 a1 h1 g1 X3 Y3
  go_upto_region 6 with fail
  obtain ⟨V4, eV⟩ : ∃ V, V = (w4.setCell ⟨r + 1, 3, none⟩ (.int .i64 v4)) := ⟨_, rfl⟩
  rw [← eV]
  have R4 : Hid (Cu g kb o c bs s4 V4) := by rw [eV]; exact (Cu.setr U3.out NG.out.2 NK.out.2 _ _)
  have G4 : Hid (w.grownBy V4 (some g)) := by rw [eV]; exact (gb_setr (gb_trans G3.out U4.out) (Nat.le_succ_of_le RG.out) _ _)
  have K4 : Hid (w4.grownBy V4 (some (r + 1))) := by rw [eV]; exact gb_set _ _ _ _
  have X4 : Hid (V4.heap[r]? = some (.cells #[.int .u8 0, .bool false, .int .i64 0, .int .i64 0, .int .i64 0, .int .u8 0, .int .u64 0, .string ⟨#[]⟩, .bool false, .int .i64 0, .string ⟨#[]⟩] 50 (0, 0))) := (K4.out.block r (blk_in' U1.out) (by intro q; have := Option.some.inj q; omega)).trans U1.out
  have Y4 : Hid (V4.heap[r + 1]? = some (.cells #[.int .u8 v1, .bool v2, .int .i64 v3, .int .i64 v4, .int .i64 0, .int .u8 0, .int .u64 0, .string ⟨#[]⟩, .bool false, .int .i64 0, .string ⟨#[]⟩] 50 (0, 0))) := by rw [eV]; show _ = _; simp [World.setCell, Array.getElem?_modify, U2.out]
  have S4 : Hid (r + 2 ≤ V4.heap.size) := blk_in' Y4.out
  clear eV U1 U2 U3 U4 b3 z3 R3 G3 D4 S3 K4
  go_wp2_with (go_at_call 59; refine (D5.out _ R4.out).mono ?_)
  first | (rintro e w5 ⟨he, h1, g1⟩; have he' := he) | (rintro e w5 he h1 g1)
  subst he
  have x1 : w5.heap[r]? = some (.cells #[.int .u8 0, .bool false, .int .i64 0, .int .i64 0, .int .i64 0, .int .u8 0, .int .u64 0, .string ⟨#[]⟩, .bool false, .int .i64 0, .string ⟨#[]⟩] 50 (0, 0)) := (g1.block r (blk_in' X4.out) (by have := NG.out.1; intro q; cases q; exact this rfl)).trans X4.out
  have a1 : w5.heap[r + 1]? = some (.cells #[.int .u8 v1, .bool v2, .int .i64 v3, .int .i64 v4, .int .i64 0, .int .u8 0, .int .u64 0, .string ⟨#[]⟩, .bool false, .int .i64 0, .string ⟨#[]⟩] 50 (0, 0)) := (g1.block (r + 1) (blk_in' Y4.out) (by have := NG.out.2; intro q; cases q; exact this rfl)).trans Y4.out
  have b4 : w5.cell? ⟨r + 1, 4, none⟩ = some (.int .i64 0) := by simp [World.cell?, a1]
  have z4 : w5.frozen? ⟨r + 1, 4, none⟩ = false := by simp [World.frozen?, a1]
  have U1 : Hid (w5.heap[r]? = some (.cells #[.int .u8 0, .bool false, .int .i64 0, .int .i64 0, .int .i64 0, .int .u8 0, .int .u64 0, .string ⟨#[]⟩, .bool false, .int .i64 0, .string ⟨#[]⟩] 50 (0, 0))) := x1
  have U2 : Hid (w5.heap[r + 1]? = some (.cells #[.int .u8 v1, .bool v2, .int .i64 v3, .int .i64 v4, .int .i64 0, .int .u8 0, .int .u64 0, .string ⟨#[]⟩, .bool false, .int .i64 0, .string ⟨#[]⟩] 50 (0, 0))) := a1
  have U3 : Hid (Cu g kb o c bs s5 w5) := h1
  have U4 : Hid (V4.grownBy w5 (some g)) := g1
  clear x1 a1 h1 g1 X4 Y4
  go_upto_region 7 with fail
  obtain ⟨V5, eV⟩ : ∃ V, V = (w5.setCell ⟨r + 1, 4, none⟩ (.int .i64 v5)) := ⟨_, rfl⟩
  rw [← eV]
  have R5 : Hid (Cu g kb o c bs s5 V5) := by rw [eV]; exact (Cu.setr U3.out NG.out.2 NK.out.2 _ _)
  have G5 : Hid (w.grownBy V5 (some g)) := by rw [eV]; exact (gb_setr (gb_trans G4.out U4.out) (Nat.le_succ_of_le RG.out) _ _)
  have K5 : Hid (w5.grownBy V5 (some (r + 1))) := by rw [eV]; exact gb_set _ _ _ _
  have X5 : Hid (V5.heap[r]? = some (.cells #[.int .u8 0, .bool false, .int .i64 0, .int .i64 0, .int .i64 0, .int .u8 0, .int .u64 0, .string ⟨#[]⟩, .bool false, .int .i64 0, .string ⟨#[]⟩] 50 (0, 0))) := (K5.out.block r (blk_in' U1.out) (by intro q; have := Option.some.inj q; omega)).trans U1.out
  have Y5 : Hid (V5.heap[r + 1]? = some (.cells #[.int .u8 v1, .bool v2, .int .i64 v3, .int .i64 v4, .int .i64 v5, .int .u8 0, .int .u64 0, .string ⟨#[]⟩, .bool false, .int .i64 0, .string ⟨#[]⟩] 50 (0, 0))) := by rw [eV]; show _ = _; simp [World.setCell, Array.getElem?_modify, U2.out]
  have S5 : Hid (r + 2 ≤ V5.heap.size) := blk_in' Y5.out
  clear eV U1 U2 U3 U4 b4 z4 R4 G4 D5 S4 K5
  go_wp2_with (go_at_call 62; refine (D6.out _ R5.out).mono ?_)
  first | (rintro e w6 ⟨he, h1, g1⟩; have he' := he) | (rintro e w6 he h1 g1)
  subst he
  have x1 : w6.heap[r]? = some (.cells #[.int .u8 0, .bool false, .int .i64 0, .int .i64 0, .int .i64 0, .int .u8 0, .int .u64 0, .string ⟨#[]⟩, .bool false, .int .i64 0, .string ⟨#[]⟩] 50 (0, 0)) := (g1.block r (blk_in' X5.out) (by have := NG.out.1; intro q; cases q; exact this rfl)).trans X5.out
  have a1 : w6.heap[r + 1]? = some (.cells #[.int .u8 v1, .bool v2, .int .i64 v3, .int .i64 v4, .int .i64 v5, .int .u8 0, .int .u64 0, .string ⟨#[]⟩, .bool false, .int .i64 0, .string ⟨#[]⟩] 50 (0, 0)) := (g1.block (r + 1) (blk_in' Y5.out) (by have := NG.out.2; intro q; cases q; exact this rfl)).trans Y5.out
  have b5 : w6.cell? ⟨r + 1, 5, none⟩ = some (.int .u8 0) := by simp [World.cell?, a1]
  have z5 : w6.frozen? ⟨r + 1, 5, none⟩ = false := by simp [World.frozen?, a1]
  have b6 : w6.cell? ⟨r + 1, 6, none⟩ = some (.int .u64 0) := by simp [World.cell?, a1]
  have z6 : w6.frozen? ⟨r + 1, 6, none⟩ = false := by simp [World.frozen?, a1]
  have b7 : w6.cell? ⟨r + 1, 7, none⟩ = some (.string ⟨#[]⟩) := by simp [World.cell?, a1]
  have z7 : w6.frozen? ⟨r + 1, 7, none⟩ = false := by simp [World.frozen?, a1]
  have U1 : Hid (w6.heap[r]? = some (.cells #[.int .u8 0, .bool false, .int .i64 0, .int .i64 0, .int .i64 0, .int .u8 0, .int .u64 0, .string ⟨#[]⟩, .bool false, .int .i64 0, .string ⟨#[]⟩] 50 (0, 0))) := x1
  have U2 : Hid (w6.heap[r + 1]? = some (.cells #[.int .u8 v1, .bool v2, .int .i64 v3, .int .i64 v4, .int .i64 v5, .int .u8 0, .int .u64 0, .string ⟨#[]⟩, .bool false, .int .i64 0, .string ⟨#[]⟩] 50 (0, 0))) := a1
  have U3 : Hid (Cu g kb o c bs s6 w6) := h1
  have U4 : Hid (V5.grownBy w6 (some g)) := g1
  clear x1 a1 h1 g1 X5 Y5
  go_upto_region 8 with fail
  obtain ⟨V6, eV⟩ : ∃ V, V = (((w6.setCell ⟨r + 1, 5, none⟩ (.int .u8 v6.1)).setCell ⟨r + 1, 6, none⟩ (.int .u64 v6.2.1)).setCell ⟨r + 1, 7, none⟩ (.string v6.2.2)) := ⟨_, rfl⟩
  rw [← eV]
  have R6 : Hid (Cu g kb o c bs s6 V6) := by rw [eV]; exact (Cu.setr (Cu.setr (Cu.setr U3.out NG.out.2 NK.out.2 _ _) NG.out.2 NK.out.2 _ _) NG.out.2 NK.out.2 _ _)
  have G6 : Hid (w.grownBy V6 (some g)) := by rw [eV]; exact (gb_setr (gb_setr (gb_setr (gb_trans G5.out U4.out) (Nat.le_succ_of_le RG.out) _ _) (Nat.le_succ_of_le RG.out) _ _) (Nat.le_succ_of_le RG.out) _ _)
  have K6 : Hid (w6.grownBy V6 (some (r + 1))) := by rw [eV]; exact gb_trans (gb_trans (gb_set _ _ _ _) (gb_set _ _ _ _)) (gb_set _ _ _ _)
  have X6 : Hid (V6.heap[r]? = some (.cells #[.int .u8 0, .bool false, .int .i64 0, .int .i64 0, .int .i64 0, .int .u8 0, .int .u64 0, .string ⟨#[]⟩, .bool false, .int .i64 0, .string ⟨#[]⟩] 50 (0, 0))) := (K6.out.block r (blk_in' U1.out) (by intro q; have := Option.some.inj q; omega)).trans U1.out
  have Y6 : Hid (V6.heap[r + 1]? = some (.cells #[.int .u8 v1, .bool v2, .int .i64 v3, .int .i64 v4, .int .i64 v5, .int .u8 v6.1, .int .u64 v6.2.1, .string v6.2.2, .bool false, .int .i64 0, .string ⟨#[]⟩] 50 (0, 0))) := by rw [eV]; show _ = _; simp [World.setCell, Array.getElem?_modify, U2.out]
  have S6 : Hid (r + 2 ≤ V6.heap.size) := blk_in' Y6.out
  clear eV U1 U2 U3 U4 b5 z5 b6 z6 b7 z7 R5 G5 D6 S5 K6
  go_wp2_with (go_at_call 61; refine (D7.out _ R6.out).mono ?_)
  first | (rintro e w7 ⟨he, h1, g1⟩; have he' := he) | (rintro e w7 he h1 g1)
  subst he
  have x1 : w7.heap[r]? = some (.cells #[.int .u8 0, .bool false, .int .i64 0, .int .i64 0, .int .i64 0, .int .u8 0, .int .u64 0, .string ⟨#[]⟩, .bool false, .int .i64 0, .string ⟨#[]⟩] 50 (0, 0)) := (g1.block r (blk_in' X6.out) (by have := NG.out.1; intro q; cases q; exact this rfl)).trans X6.out
  have a1 : w7.heap[r + 1]? = some (.cells #[.int .u8 v1, .bool v2, .int .i64 v3, .int .i64 v4, .int .i64 v5, .int .u8 v6.1, .int .u64 v6.2.1, .string v6.2.2, .bool false, .int .i64 0, .string ⟨#[]⟩] 50 (0, 0)) := (g1.block (r + 1) (blk_in' Y6.out) (by have := NG.out.2; intro q; cases q; exact this rfl)).trans Y6.out
  have b8 : w7.cell? ⟨r + 1, 8, none⟩ = some (.bool false) := by simp [World.cell?, a1]
  have z8 : w7.frozen? ⟨r + 1, 8, none⟩ = false := by simp [World.frozen?, a1]
  have U1 : Hid (w7.heap[r]? = some (.cells #[.int .u8 0, .bool false, .int .i64 0, .int .i64 0, .int .i64 0, .int .u8 0, .int .u64 0, .string ⟨#[]⟩, .bool false, .int .i64 0, .string ⟨#[]⟩] 50 (0, 0))) := x1
  have U2 : Hid (w7.heap[r + 1]? = some (.cells #[.int .u8 v1, .bool v2, .int .i64 v3, .int .i64 v4, .int .i64 v5, .int .u8 v6.1, .int .u64 v6.2.1, .string v6.2.2, .bool false, .int .i64 0, .string ⟨#[]⟩] 50 (0, 0))) := a1
  have U3 : Hid (Cu g kb o c bs s7 w7) := h1
  have U4 : Hid (V6.grownBy w7 (some g)) := g1
  clear x1 a1 h1 g1 X6 Y6
  go_upto_region 9 with fail
  obtain ⟨V7, eV⟩ : ∃ V, V = (w7.setCell ⟨r + 1, 8, none⟩ (.bool v7)) := ⟨_, rfl⟩
  rw [← eV]
  have R7 : Hid (Cu g kb o c bs s7 V7) := by rw [eV]; exact (Cu.setr U3.out NG.out.2 NK.out.2 _ _)
  have G7 : Hid (w.grownBy V7 (some g)) := by rw [eV]; exact (gb_setr (gb_trans G6.out U4.out) (Nat.le_succ_of_le RG.out) _ _)
  have K7 : Hid (w7.grownBy V7 (some (r + 1))) := by rw [eV]; exact gb_set _ _ _ _
  have X7 : Hid (V7.heap[r]? = some (.cells #[.int .u8 0, .bool false, .int .i64 0, .int .i64 0, .int .i64 0, .int .u8 0, .int .u64 0, .string ⟨#[]⟩, .bool false, .int .i64 0, .string ⟨#[]⟩] 50 (0, 0))) := (K7.out.block r (blk_in' U1.out) (by intro q; have := Option.some.inj q; omega)).trans U1.out
  have Y7 : Hid (V7.heap[r + 1]? = some (.cells #[.int .u8 v1, .bool v2, .int .i64 v3, .int .i64 v4, .int .i64 v5, .int .u8 v6.1, .int .u64 v6.2.1, .string v6.2.2, .bool v7, .int .i64 0, .string ⟨#[]⟩] 50 (0, 0))) := by rw [eV]; show _ = _; simp [World.setCell, Array.getElem?_modify, U2.out]
  have S7 : Hid (r + 2 ≤ V7.heap.size) := blk_in' Y7.out
  clear eV U1 U2 U3 U4 b8 z8 R6 G6 D7 S6 K7
  go_wp2_with (go_at_call 60; refine (D8.out _ R7.out).mono ?_)
  first | (rintro e w8 ⟨he, h1, g1⟩; have he' := he) | (rintro e w8 he h1 g1)
  subst he
  have x1 : w8.heap[r]? = some (.cells #[.int .u8 0, .bool false, .int .i64 0, .int .i64 0, .int .i64 0, .int .u8 0, .int .u64 0, .string ⟨#[]⟩, .bool false, .int .i64 0, .string ⟨#[]⟩] 50 (0, 0)) := (g1.block r (blk_in' X7.out) (by have := NG.out.1; intro q; cases q; exact this rfl)).trans X7.out
  have a1 : w8.heap[r + 1]? = some (.cells #[.int .u8 v1, .bool v2, .int .i64 v3, .int .i64 v4, .int .i64 v5, .int .u8 v6.1, .int .u64 v6.2.1, .string v6.2.2, .bool v7, .int .i64 0, .string ⟨#[]⟩] 50 (0, 0)) := (g1.block (r + 1) (blk_in' Y7.out) (by have := NG.out.2; intro q; cases q; exact this rfl)).trans Y7.out
  have b9 : w8.cell? ⟨r + 1, 9, none⟩ = some (.int .i64 0) := by simp [World.cell?, a1]
  have z9 : w8.frozen? ⟨r + 1, 9, none⟩ = false := by simp [World.frozen?, a1]
  have U1 : Hid (w8.heap[r]? = some (.cells #[.int .u8 0, .bool false, .int .i64 0, .int .i64 0, .int .i64 0, .int .u8 0, .int .u64 0, .string ⟨#[]⟩, .bool false, .int .i64 0, .string ⟨#[]⟩] 50 (0, 0))) := x1
  have U2 : Hid (w8.heap[r + 1]? = some (.cells #[.int .u8 v1, .bool v2, .int .i64 v3, .int .i64 v4, .int .i64 v5, .int .u8 v6.1, .int .u64 v6.2.1, .string v6.2.2, .bool v7, .int .i64 0, .string ⟨#[]⟩] 50 (0, 0))) := a1
  have U3 : Hid (Cu g kb o c bs s8 w8) := h1
  have U4 : Hid (V7.grownBy w8 (some g)) := g1
  clear x1 a1 h1 g1 X7 Y7
  go_upto_region 10 with fail
  obtain ⟨V8, eV⟩ : ∃ V, V = (w8.setCell ⟨r + 1, 9, none⟩ (.int .i64 v8)) := ⟨_, rfl⟩
  rw [← eV]
  have R8 : Hid (Cu g kb o c bs s8 V8) := by rw [eV]; exact (Cu.setr U3.out NG.out.2 NK.out.2 _ _)
  have G8 : Hid (w.grownBy V8 (some g)) := by rw [eV]; exact (gb_setr (gb_trans G7.out U4.out) (Nat.le_succ_of_le RG.out) _ _)
  have K8 : Hid (w8.grownBy V8 (some (r + 1))) := by rw [eV]; exact gb_set _ _ _ _
  have X8 : Hid (V8.heap[r]? = some (.cells #[.int .u8 0, .bool false, .int .i64 0, .int .i64 0, .int .i64 0, .int .u8 0, .int .u64 0, .string ⟨#[]⟩, .bool false, .int .i64 0, .string ⟨#[]⟩] 50 (0, 0))) := (K8.out.block r (blk_in' U1.out) (by intro q; have := Option.some.inj q; omega)).trans U1.out
  have Y8 : Hid (V8.heap[r + 1]? = some (.cells #[.int .u8 v1, .bool v2, .int .i64 v3, .int .i64 v4, .int .i64 v5, .int .u8 v6.1, .int .u64 v6.2.1, .string v6.2.2, .bool v7, .int .i64 v8, .string ⟨#[]⟩] 50 (0, 0))) := by rw [eV]; show _ = _; simp [World.setCell, Array.getElem?_modify, U2.out]
  have S8 : Hid (r + 2 ≤ V8.heap.size) := blk_in' Y8.out
  clear eV U1 U2 U3 U4 b9 z9 R7 G7 D8 S7 K8
  go_wp2_with (go_at_call 28; refine (D9.out _ R8.out).mono ?_)
  first | (rintro e w9 ⟨he, h1, g1⟩; have he' := he) | (rintro e w9 he h1 g1)
  subst he
  have x1 : w9.heap[r]? = some (.cells #[.int .u8 0, .bool false, .int .i64 0, .int .i64 0, .int .i64 0, .int .u8 0, .int .u64 0, .string ⟨#[]⟩, .bool false, .int .i64 0, .string ⟨#[]⟩] 50 (0, 0)) := (g1.block r (blk_in' X8.out) (by have := NG.out.1; intro q; cases q; exact this rfl)).trans X8.out
  have a1 : w9.heap[r + 1]? = some (.cells #[.int .u8 v1, .bool v2, .int .i64 v3, .int .i64 v4, .int .i64 v5, .int .u8 v6.1, .int .u64 v6.2.1, .string v6.2.2, .bool v7, .int .i64 v8, .string ⟨#[]⟩] 50 (0, 0)) := (g1.block (r + 1) (blk_in' Y8.out) (by have := NG.out.2; intro q; cases q; exact this rfl)).trans Y8.out
  have b10 : w9.cell? ⟨r + 1, 10, none⟩ = some (.string ⟨#[]⟩) := by simp [World.cell?, a1]
  have z10 : w9.frozen? ⟨r + 1, 10, none⟩ = false := by simp [World.frozen?, a1]
  have U1 : Hid (w9.heap[r]? = some (.cells #[.int .u8 0, .bool false, .int .i64 0, .int .i64 0, .int .i64 0, .int .u8 0, .int .u64 0, .string ⟨#[]⟩, .bool false, .int .i64 0, .string ⟨#[]⟩] 50 (0, 0))) := x1
  have U2 : Hid (w9.heap[r + 1]? = some (.cells #[.int .u8 v1, .bool v2, .int .i64 v3, .int .i64 v4, .int .i64 v5, .int .u8 v6.1, .int .u64 v6.2.1, .string v6.2.2, .bool v7, .int .i64 v8, .string ⟨#[]⟩] 50 (0, 0))) := a1
  have U3 : Hid (Cu g kb o c bs s9 w9) := h1
  have U4 : Hid (V8.grownBy w9 (some g)) := g1
  clear x1 a1 h1 g1 X8 Y8
  go_upto_region 11 with fail
  obtain ⟨V9, eV⟩ : ∃ V, V = (w9.setCell ⟨r + 1, 10, none⟩ (.string v9)) := ⟨_, rfl⟩
  rw [← eV]
  have R9 : Hid (Cu g kb o c bs s9 V9) := by rw [eV]; exact (Cu.setr U3.out NG.out.2 NK.out.2 _ _)
  have G9 : Hid (w.grownBy V9 (some g)) := by rw [eV]; exact (gb_setr (gb_trans G8.out U4.out) (Nat.le_succ_of_le RG.out) _ _)
  have K9 : Hid (w9.grownBy V9 (some (r + 1))) := by rw [eV]; exact gb_set _ _ _ _
  have X9 : Hid (V9.heap[r]? = some (.cells #[.int .u8 0, .bool false, .int .i64 0, .int .i64 0, .int .i64 0, .int .u8 0, .int .u64 0, .string ⟨#[]⟩, .bool false, .int .i64 0, .string ⟨#[]⟩] 50 (0, 0))) := (K9.out.block r (blk_in' U1.out) (by intro q; have := Option.some.inj q; omega)).trans U1.out
  have Y9 : Hid (V9.heap[r + 1]? = some (.cells #[.int .u8 v1, .bool v2, .int .i64 v3, .int .i64 v4, .int .i64 v5, .int .u8 v6.1, .int .u64 v6.2.1, .string v6.2.2, .bool v7, .int .i64 v8, .string v9] 50 (0, 0))) := by rw [eV]; show _ = _; simp [World.setCell, Array.getElem?_modify, U2.out]
  have S9 : Hid (r + 2 ≤ V9.heap.size) := blk_in' Y9.out
  clear eV U1 U2 U3 U4 b10 z10 R8 G8 D9 S8 K9
  have b0 : V9.cell? ⟨r + 1, 0, none⟩ = some (.int .u8 v1) := by simp [World.cell?, Y9.out]
  have b1 : V9.cell? ⟨r + 1, 1, none⟩ = some (.bool v2) := by simp [World.cell?, Y9.out]
  have b2 : V9.cell? ⟨r + 1, 2, none⟩ = some (.int .i64 v3) := by simp [World.cell?, Y9.out]
  have b3 : V9.cell? ⟨r + 1, 3, none⟩ = some (.int .i64 v4) := by simp [World.cell?, Y9.out]
  have b4 : V9.cell? ⟨r + 1, 4, none⟩ = some (.int .i64 v5) := by simp [World.cell?, Y9.out]
  have b5 : V9.cell? ⟨r + 1, 5, none⟩ = some (.int .u8 v6.1) := by simp [World.cell?, Y9.out]
  have b6 : V9.cell? ⟨r + 1, 6, none⟩ = some (.int .u64 v6.2.1) := by simp [World.cell?, Y9.out]
  have b7 : V9.cell? ⟨r + 1, 7, none⟩ = some (.string v6.2.2) := by simp [World.cell?, Y9.out]
  have b8 : V9.cell? ⟨r + 1, 8, none⟩ = some (.bool v7) := by simp [World.cell?, Y9.out]
  have b9 : V9.cell? ⟨r + 1, 9, none⟩ = some (.int .i64 v8) := by simp [World.cell?, Y9.out]
  have b10 : V9.cell? ⟨r + 1, 10, none⟩ = some (.string v9) := by simp [World.cell?, Y9.out]
  go_wp2_with (refine wpList_store_row rfl 50 _ _ rfl r _ rfl rfl _ _ X9.out (show (Tryz.prog.info? 50).map (·.size) = some 11 by kernel_rfl) rfl (by kernel_rfl) ?_)
  have hz := setRow_heap V9 r _ #[.int .u8 v1, .bool v2, .int .i64 v3, .int .i64 v4, .int .i64 v5, .int .u8 v6.1, .int .u64 v6.2.1, .string v6.2.2, .bool v7, .int .i64 v8, .string v9] _ _ X9.out
  refine bodyPost_ret (v := .agg #[.int .u8 v1, .bool v2, .int .i64 v3, .int .i64 v4, .int .i64 v5, .int .u8 v6.1, .int .u64 v6.2.1, .string v6.2.2, .bool v7, .int .i64 v8, .string v9]) (results_cell_row Tryz.results30 _ _ r _ _ (0, 0) _ (by first | rfl | simp [Act.put]) hz Tryz.underlying50 rfl (show (Tryz.prog.info? 50).map (·.size) = some 11 by kernel_rfl)) rfl ?_
  exact ⟨rfl, R9.out.row NG.out.1 NK.out.1 _, gb_row G9.out RG.out _⟩
end Go.Proofs.YtahgnmbkobiclaaGreat
