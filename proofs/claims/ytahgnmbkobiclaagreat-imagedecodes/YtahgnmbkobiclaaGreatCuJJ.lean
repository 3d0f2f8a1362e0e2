/- image: what the document's cursor reads: codes; no statement of the seat is proved here. -/
import Derived.Test.YtahgnmbkobiclaaGreatJnA9
namespace Go.Proofs.YtahgnmbkobiclaaGreat
set_option linter.unusedVariables false
set_option linter.unusedSimpArgs false
open Go.RowKit
set_option maxRecDepth 20000 in
set_option maxHeartbeats 8000000 in
theorem flatCG (g kb o c : Nat) (bs : List Nat) (s s1 s2 s3 s4 s5 s6 : RS) (v1 : ByteArray) (v2 : Int) (v3 : Int) (v4 : Int) (v5 : Int) (v6 : Int) 
    (C1 : ∀ W, Cu g kb o c bs s W → Calls Tryz.prog 28 #[.pointer (some ⟨g, 0, none⟩)] W fun e w' => e = .returned (.string v1) ∧ Cu g kb o c bs s1 w' ∧ W.grownBy w' (some g))
    (C2 : ∀ W, Cu g kb o c bs s1 W → Calls Tryz.prog 59 #[.pointer (some ⟨g, 0, none⟩)] W fun e w' => e = .returned (.int .i64 v2) ∧ Cu g kb o c bs s2 w' ∧ W.grownBy w' (some g))
    (C3 : ∀ W, Cu g kb o c bs s2 W → Calls Tryz.prog 59 #[.pointer (some ⟨g, 0, none⟩)] W fun e w' => e = .returned (.int .i64 v3) ∧ Cu g kb o c bs s3 w' ∧ W.grownBy w' (some g))
    (C4 : ∀ W, Cu g kb o c bs s3 W → Calls Tryz.prog 59 #[.pointer (some ⟨g, 0, none⟩)] W fun e w' => e = .returned (.int .i64 v4) ∧ Cu g kb o c bs s4 w' ∧ W.grownBy w' (some g))
    (C5 : ∀ W, Cu g kb o c bs s4 W → Calls Tryz.prog 59 #[.pointer (some ⟨g, 0, none⟩)] W fun e w' => e = .returned (.int .i64 v5) ∧ Cu g kb o c bs s5 w' ∧ W.grownBy w' (some g))
    (C6 : ∀ W, Cu g kb o c bs s5 W → Calls Tryz.prog 59 #[.pointer (some ⟨g, 0, none⟩)] W fun e w' => e = .returned (.int .i64 v6) ∧ Cu g kb o c bs s6 w' ∧ W.grownBy w' (some g))
    (s7 s8 : RS) (N7 N8 : Int) (ro : RS → OpR × RS) (rn : RS → Int × RS) (rl : RS → LpR × RS) (hrl : ∀ s, rl s = (⟨(rn s).1, (rn (rn s).2).1, (rn (rn (rn s).2).2).1⟩, (rn (rn (rn s).2).2).2))
    (OKh : 0 ≤ N7 ∧ N7 ≤ 4194304 ∧ 0 ≤ N8 ∧ N8 ≤ 4194304)
    (C7 : ∀ W, Cu g kb o c bs s6 W → Calls Tryz.prog 29 #[.pointer (some ⟨g, 0, none⟩)] W fun e w' => e = .returned (.int .i64 N7) ∧ Cu g kb o c bs s7 w' ∧ W.grownBy w' (some g))
    (C8 : ∀ W, Cu g kb o c bs (rdKS ro N7.toNat s7) W → Calls Tryz.prog 29 #[.pointer (some ⟨g, 0, none⟩)] W fun e w' => e = .returned (.int .i64 N8) ∧ Cu g kb o c bs s8 w' ∧ W.grownBy w' (some g))
    (E7 : ∀ (s : RS) (W : World), Cu g kb o c bs s W → Calls Tryz.prog 63 #[.pointer (some ⟨g, 0, none⟩)] W fun e w' => e = .returned (.agg #[.int .i64 (ro s).1.cd, .int .i64 (ro s).1.a, .int .i64 (ro s).1.b, .int .i64 (ro s).1.c, .int .i64 (ro s).1.d, .int .i64 (ro s).1.lo, .int .i64 (ro s).1.hi, .int .u8 (ro s).1.vk, .int .u64 (ro s).1.vb, .string (ro s).1.vs]) ∧ Cu g kb o c bs (ro s).2 w' ∧ W.grownBy w' (some g))
    (E8 : ∀ (s : RS) (W : World), Cu g kb o c bs s W → Calls Tryz.prog 59 #[.pointer (some ⟨g, 0, none⟩)] W fun e w' => e = .returned (.int .i64 (rn s).1) ∧ Cu g kb o c bs (rn s).2 w' ∧ W.grownBy w' (some g))
    (w : World) (h : Cu g kb o c bs s w) :
    Calls Tryz.prog 31 #[.pointer (some ⟨g, 0, none⟩)] w fun e w' => (∃ y7 c7 y8 c8, e = .returned (.agg #[.string v1, .int .i64 v2, .int .i64 v3, .int .i64 v4, .int .i64 v5, .int .i64 v6, .slice y7 (rdKL ro N7.toNat s7).length c7, .slice y8 (rdKL rl N8.toNat s8).length c8]) ∧ RwF 10 ((fun S w => Is opC) (Fresh w.heap.size w'.heap.size) w') (Fresh w.heap.size w'.heap.size) w' y7 (rdKL ro N7.toNat s7) ∧ RwF 3 ((fun S w => Is lpC) (Fresh w.heap.size w'.heap.size) w') (Fresh w.heap.size w'.heap.size) w' y8 (rdKL rl N8.toNat s8)) ∧ Cu g kb o c bs (rdKS rl N8.toNat s8) w' ∧ w.grownBy w' (some g) := by
  have OK : Hid _ := OKh
  have D7 : Hid _ := C7
  have D8 : Hid _ := C8
  have H7 : Hid _ := E7
  have H8 : Hid _ := E8
  have HRL : Hid _ := hrl
  clear OKh C7 C8 E7 E8 hrl
  obtain ⟨r, hr⟩ : ∃ r, w.heap.size = r := ⟨_, rfl⟩
  obtain ⟨A0, e0⟩ : ∃ A0, A0 = w.alloc (.cells #[.string ⟨#[]⟩, .int .i64 0, .int .i64 0, .int .i64 0, .int .i64 0, .int .i64 0, .slice none 0 0, .slice none 0 0] 78 (0, 0)) := ⟨_, rfl⟩
  obtain ⟨AW, eW⟩ : ∃ AW, AW = A0.alloc (.cells #[.string ⟨#[]⟩, .int .i64 0, .int .i64 0, .int .i64 0, .int .i64 0, .int .i64 0, .slice none 0 0, .slice none 0 0] 78 (0, 0)) := ⟨_, rfl⟩
  have S0 : A0.heap.size = r + 1 := by rw [e0, ← hr]; simp
  have R0 : Hid (Cu g kb o c bs s AW) := by rw [eW, e0]; exact (h.al _).al _
  have G0 : Hid (w.grownBy AW (some g)) := by rw [eW, e0]; exact gb_trans (gb_alloc _ _ _) (gb_alloc _ _ _)
  have X0 : Hid (AW.heap[r]? = some (.cells #[.string ⟨#[]⟩, .int .i64 0, .int .i64 0, .int .i64 0, .int .i64 0, .int .i64 0, .slice none 0 0, .slice none 0 0] 78 (0, 0))) := by
    rw [eW]
    refine ((gb_alloc A0 _ none).block r (by omega) (by simp)).trans ?_
    rw [e0, ← hr]
    exact heap_alloc_last _ _
  have Y0 : Hid (AW.heap[r + 1]? = some (.cells #[.string ⟨#[]⟩, .int .i64 0, .int .i64 0, .int .i64 0, .int .i64 0, .int .i64 0, .slice none 0 0, .slice none 0 0] 78 (0, 0))) := by rw [eW, ← S0]; exact heap_alloc_last _ _
  have NG : Hid (r ≠ g ∧ r + 1 ≠ g) := by have := h.lt; exact ⟨by omega, by omega⟩
  have RG : Hid (w.heap.size ≤ r) := by show _ ≤ _; omega
  have GR : Hid (g < r) := by have := h.lt; show _ < _; omega
  have NK : Hid (r ≠ kb ∧ r + 1 ≠ kb) := by have := h.kl; exact ⟨by omega, by omega⟩
  have D1 : Hid _ := C1
  have D2 : Hid _ := C2
  have D3 : Hid _ := C3
  have D4 : Hid _ := C4
  have D5 : Hid _ := C5
  have D6 : Hid _ := C6
  clear h C1 C2 C3 C4 C5 C6
  go_enter Tryz.func31, Tryz.ntmps31
  go_upto_region 1 with fail
  rw [← e0]
  clear e0
  go_upto_region 2 with fail
  try rw [S0]
  rw [← eW]
  clear eW S0 hr
  go_wp2_with (go_at_call 28; refine (D1.out _ R0.out).mono ?_)
  first | (rintro e w1 ⟨he, h1, g1⟩; have he' := he) | (rintro e w1 he h1 g1)
  subst he
  have x1 : w1.heap[r]? = some (.cells #[.string ⟨#[]⟩, .int .i64 0, .int .i64 0, .int .i64 0, .int .i64 0, .int .i64 0, .slice none 0 0, .slice none 0 0] 78 (0, 0)) := (g1.block r (blk_in' X0.out) (by have := NG.out.1; intro q; cases q; exact this rfl)).trans X0.out
  have a1 : w1.heap[r + 1]? = some (.cells #[.string ⟨#[]⟩, .int .i64 0, .int .i64 0, .int .i64 0, .int .i64 0, .int .i64 0, .slice none 0 0, .slice none 0 0] 78 (0, 0)) := (g1.block (r + 1) (blk_in' Y0.out) (by have := NG.out.2; intro q; cases q; exact this rfl)).trans Y0.out
  have b0 : w1.cell? ⟨r + 1, 0, none⟩ = some (.string ⟨#[]⟩) := by simp [World.cell?, a1]
  have z0 : w1.frozen? ⟨r + 1, 0, none⟩ = false := by simp [World.frozen?, a1]
  have U1 : Hid (w1.heap[r]? = some (.cells #[.string ⟨#[]⟩, .int .i64 0, .int .i64 0, .int .i64 0, .int .i64 0, .int .i64 0, .slice none 0 0, .slice none 0 0] 78 (0, 0))) := x1
  have U2 : Hid (w1.heap[r + 1]? = some (.cells #[.string ⟨#[]⟩, .int .i64 0, .int .i64 0, .int .i64 0, .int .i64 0, .int .i64 0, .slice none 0 0, .slice none 0 0] 78 (0, 0))) := a1
  have U3 : Hid (Cu g kb o c bs s1 w1) := h1
  have U4 : Hid (AW.grownBy w1 (some g)) := g1
  clear x1 a1 h1 g1 X0 Y0
  go_upto_region 3 with fail
  obtain ⟨V1, eV⟩ : ∃ V, V = (w1.setCell ⟨r + 1, 0, none⟩ (.string v1)) := ⟨_, rfl⟩
  rw [← eV]
  have R1 : Hid (Cu g kb o c bs s1 V1) := by rw [eV]; exact (Cu.setr U3.out NG.out.2 NK.out.2 _ _)
  have G1 : Hid (w.grownBy V1 (some g)) := by rw [eV]; exact (gb_setr (gb_trans G0.out U4.out) (Nat.le_succ_of_le RG.out) _ _)
  have K1 : Hid (w1.grownBy V1 (some (r + 1))) := by rw [eV]; exact gb_set _ _ _ _
  have X1 : Hid (V1.heap[r]? = some (.cells #[.string ⟨#[]⟩, .int .i64 0, .int .i64 0, .int .i64 0, .int .i64 0, .int .i64 0, .slice none 0 0, .slice none 0 0] 78 (0, 0))) := (K1.out.block r (blk_in' U1.out) (by intro q; have := Option.some.inj q; omega)).trans U1.out
  have Y1 : Hid (V1.heap[r + 1]? = some (.cells #[.string v1, .int .i64 0, .int .i64 0, .int .i64 0, .int .i64 0, .int .i64 0, .slice none 0 0, .slice none 0 0] 78 (0, 0))) := by rw [eV]; show _ = _; simp [World.setCell, Array.getElem?_modify, U2.out]
  have S1 : Hid (r + 2 ≤ V1.heap.size) := blk_in' Y1.out
  clear eV U1 U2 U3 U4 b0 z0 R0 G0 D1 K1
  go_wp2_with (go_at_call 59; refine (D2.out _ R1.out).mono ?_)
  first | (rintro e w2 ⟨he, h1, g1⟩; have he' := he) | (rintro e w2 he h1 g1)
  subst he
  have x1 : w2.heap[r]? = some (.cells #[.string ⟨#[]⟩, .int .i64 0, .int .i64 0, .int .i64 0, .int .i64 0, .int .i64 0, .slice none 0 0, .slice none 0 0] 78 (0, 0)) := (g1.block r (blk_in' X1.out) (by have := NG.out.1; intro q; cases q; exact this rfl)).trans X1.out
  have a1 : w2.heap[r + 1]? = some (.cells #[.string v1, .int .i64 0, .int .i64 0, .int .i64 0, .int .i64 0, .int .i64 0, .slice none 0 0, .slice none 0 0] 78 (0, 0)) := (g1.block (r + 1) (blk_in' Y1.out) (by have := NG.out.2; intro q; cases q; exact this rfl)).trans Y1.out
  have b1 : w2.cell? ⟨r + 1, 1, none⟩ = some (.int .i64 0) := by simp [World.cell?, a1]
  have z1 : w2.frozen? ⟨r + 1, 1, none⟩ = false := by simp [World.frozen?, a1]
  have U1 : Hid (w2.heap[r]? = some (.cells #[.string ⟨#[]⟩, .int .i64 0, .int .i64 0, .int .i64 0, .int .i64 0, .int .i64 0, .slice none 0 0, .slice none 0 0] 78 (0, 0))) := x1
  have U2 : Hid (w2.heap[r + 1]? = some (.cells #[.string v1, .int .i64 0, .int .i64 0, .int .i64 0, .int .i64 0, .int .i64 0, .slice none 0 0, .slice none 0 0] 78 (0, 0))) := a1
  have U3 : Hid (Cu g kb o c bs s2 w2) := h1
  have U4 : Hid (V1.grownBy w2 (some g)) := g1
  clear x1 a1 h1 g1 X1 Y1
  go_upto_region 4 with fail
  obtain ⟨V2, eV⟩ : ∃ V, V = (w2.setCell ⟨r + 1, 1, none⟩ (.int .i64 v2)) := ⟨_, rfl⟩
  rw [← eV]
  have R2 : Hid (Cu g kb o c bs s2 V2) := by rw [eV]; exact (Cu.setr U3.out NG.out.2 NK.out.2 _ _)
  have G2 : Hid (w.grownBy V2 (some g)) := by rw [eV]; exact (gb_setr (gb_trans G1.out U4.out) (Nat.le_succ_of_le RG.out) _ _)
  have K2 : Hid (w2.grownBy V2 (some (r + 1))) := by rw [eV]; exact gb_set _ _ _ _
  have X2 : Hid (V2.heap[r]? = some (.cells #[.string ⟨#[]⟩, .int .i64 0, .int .i64 0, .int .i64 0, .int .i64 0, .int .i64 0, .slice none 0 0, .slice none 0 0] 78 (0, 0))) := (K2.out.block r (blk_in' U1.out) (by intro q; have := Option.some.inj q; omega)).trans U1.out
  have Y2 : Hid (V2.heap[r + 1]? = some (.cells #[.string v1, .int .i64 v2, .int .i64 0, .int .i64 0, .int .i64 0, .int .i64 0, .slice none 0 0, .slice none 0 0] 78 (0, 0))) := by rw [eV]; show _ = _; simp [World.setCell, Array.getElem?_modify, U2.out]
  have S2 : Hid (r + 2 ≤ V2.heap.size) := blk_in' Y2.out
  clear eV U1 U2 U3 U4 b1 z1 R1 G1 D2 S1 K2
  go_wp2_with (go_at_call 59; refine (D3.out _ R2.out).mono ?_)
  first | (rintro e w3 ⟨he, h1, g1⟩; have he' := he) | (rintro e w3 he h1 g1)
  subst he
  have x1 : w3.heap[r]? = some (.cells #[.string ⟨#[]⟩, .int .i64 0, .int .i64 0, .int .i64 0, .int .i64 0, .int .i64 0, .slice none 0 0, .slice none 0 0] 78 (0, 0)) := (g1.block r (blk_in' X2.out) (by have := NG.out.1; intro q; cases q; exact this rfl)).trans X2.out
  have a1 : w3.heap[r + 1]? = some (.cells #[.string v1, .int .i64 v2, .int .i64 0, .int .i64 0, .int .i64 0, .int .i64 0, .slice none 0 0, .slice none 0 0] 78 (0, 0)) := (g1.block (r + 1) (blk_in' Y2.out) (by have := NG.out.2; intro q; cases q; exact this rfl)).trans Y2.out
  have b2 : w3.cell? ⟨r + 1, 2, none⟩ = some (.int .i64 0) := by simp [World.cell?, a1]
  have z2 : w3.frozen? ⟨r + 1, 2, none⟩ = false := by simp [World.frozen?, a1]
  have U1 : Hid (w3.heap[r]? = some (.cells #[.string ⟨#[]⟩, .int .i64 0, .int .i64 0, .int .i64 0, .int .i64 0, .int .i64 0, .slice none 0 0, .slice none 0 0] 78 (0, 0))) := x1
  have U2 : Hid (w3.heap[r + 1]? = some (.cells #[.string v1, .int .i64 v2, .int .i64 0, .int .i64 0, .int .i64 0, .int .i64 0, .slice none 0 0, .slice none 0 0] 78 (0, 0))) := a1
  have U3 : Hid (Cu g kb o c bs s3 w3) := h1
  have U4 : Hid (V2.grownBy w3 (some g)) := g1
  clear x1 a1 h1 g1 X2 Y2
  go_upto_region 5 with fail
  obtain ⟨V3, eV⟩ : ∃ V, V = (w3.setCell ⟨r + 1, 2, none⟩ (.int .i64 v3)) := ⟨_, rfl⟩
  rw [← eV]
  have R3 : Hid (Cu g kb o c bs s3 V3) := by rw [eV]; exact (Cu.setr U3.out NG.out.2 NK.out.2 _ _)
  have G3 : Hid (w.grownBy V3 (some g)) := by rw [eV]; exact (gb_setr (gb_trans G2.out U4.out) (Nat.le_succ_of_le RG.out) _ _)
  have K3 : Hid (w3.grownBy V3 (some (r + 1))) := by rw [eV]; exact gb_set _ _ _ _
  have X3 : Hid (V3.heap[r]? = some (.cells #[.string ⟨#[]⟩, .int .i64 0, .int .i64 0, .int .i64 0, .int .i64 0, .int .i64 0, .slice none 0 0, .slice none 0 0] 78 (0, 0))) := (K3.out.block r (blk_in' U1.out) (by intro q; have := Option.some.inj q; omega)).trans U1.out
  have Y3 : Hid (V3.heap[r + 1]? = some (.cells #[.string v1, .int .i64 v2, .int .i64 v3, .int .i64 0, .int .i64 0, .int .i64 0, .slice none 0 0, .slice none 0 0] 78 (0, 0))) := by rw [eV]; show _ = _; simp [World.setCell, Array.getElem?_modify, U2.out]
  have S3 : Hid (r + 2 ≤ V3.heap.size) := blk_in' Y3.out
  clear eV U1 U2 U3 U4 b2 z2 R2 G2 D3 S2 K3
  go_wp2_with (go_at_call 59; refine (D4.out _ R3.out).mono ?_)
  first | (rintro e w4 ⟨he, h1, g1⟩; have he' := he) | (rintro e w4 he h1 g1)
  subst he
  have x1 : w4.heap[r]? = some (.cells #[.string ⟨#[]⟩, .int .i64 0, .int .i64 0, .int .i64 0, .int .i64 0, .int .i64 0, .slice none 0 0, .slice none 0 0] 78 (0, 0)) := (g1.block r (blk_in' X3.out) (by have := NG.out.1; intro q; cases q; exact this rfl)).trans X3.out
  have a1 : w4.heap[r + 1]? = some (.cells #[.string v1, .int .i64 v2, .int .i64 v3, .int .i64 0, .int .i64 0, .int .i64 0, .slice none 0 0, .slice none 0 0] 78 (0, 0)) := (g1.block (r + 1) (blk_in' Y3.out) (by have := NG.out.2; intro q; cases q; exact this rfl)).trans Y3.out
  have b3 : w4.cell? ⟨r + 1, 3, none⟩ = some (.int .i64 0) := by simp [World.cell?, a1]
  have z3 : w4.frozen? ⟨r + 1, 3, none⟩ = false := by simp [World.frozen?, a1]
  have U1 : Hid (w4.heap[r]? = some (.cells #[.string ⟨#[]⟩, .int .i64 0, .int .i64 0, .int .i64 0, .int .i64 0, .int .i64 0, .slice none 0 0, .slice none 0 0] 78 (0, 0))) := x1
  have U2 : Hid (w4.heap[r + 1]? = some (.cells #[.string v1, .int .i64 v2, .int .i64 v3, .int .i64 0, .int .i64 0, .int .i64 0, .slice none 0 0, .slice none 0 0] 78 (0, 0))) := a1
  have U3 : Hid (Cu g kb o c bs s4 w4) := h1
  have U4 : Hid (V3.grownBy w4 (some g)) := g1
  clear x1 a1 h1 g1 X3 Y3
  go_upto_region 6 with fail
  obtain ⟨V4, eV⟩ : ∃ V, V = (w4.setCell ⟨r + 1, 3, none⟩ (.int .i64 v4)) := ⟨_, rfl⟩
  rw [← eV]
  have R4 : Hid (Cu g kb o c bs s4 V4) := by rw [eV]; exact (Cu.setr U3.out NG.out.2 NK.out.2 _ _)
  have G4 : Hid (w.grownBy V4 (some g)) := by rw [eV]; exact (gb_setr (gb_trans G3.out U4.out) (Nat.le_succ_of_le RG.out) _ _)
  have K4 : Hid (w4.grownBy V4 (some (r + 1))) := by rw [eV]; exact gb_set _ _ _ _
  have X4 : Hid (V4.heap[r]? = some (.cells #[.string ⟨#[]⟩, .int .i64 0, .int .i64 0, .int .i64 0, .int .i64 0, .int .i64 0, .slice none 0 0, .slice none 0 0] 78 (0, 0))) := (K4.out.block r (blk_in' U1.out) (by intro q; have := Option.some.inj q; omega)).trans U1.out
  have Y4 : Hid (V4.heap[r + 1]? = some (.cells #[.string v1, .int .i64 v2, .int .i64 v3, .int .i64 v4, .int .i64 0, .int .i64 0, .slice none 0 0, .slice none 0 0] 78 (0, 0))) := by rw [eV]; show _ = _; simp [World.setCell, Array.getElem?_modify, U2.out]
  have S4 : Hid (r + 2 ≤ V4.heap.size) := blk_in' Y4.out
  clear eV U1 U2 U3 U4 b3 z3 R3 G3 D4 S3 K4
  go_wp2_with (go_at_call 59; refine (D5.out _ R4.out).mono ?_)
  first | (rintro e w5 ⟨he, h1, g1⟩; have he' := he) | (rintro e w5 he h1 g1)
  subst he
  have x1 : w5.heap[r]? = some (.cells #[.string ⟨#[]⟩, .int .i64 0, .int .i64 0, .int .i64 0, .int .i64 0, .int .i64 0, .slice none 0 0, .slice none 0 0] 78 (0, 0)) := (g1.block r (blk_in' X4.out) (by have := NG.out.1; intro q; cases q; exact this rfl)).trans X4.out
  have a1 : w5.heap[r + 1]? = some (.cells #[.string v1, .int .i64 v2, .int .i64 v3, .int .i64 v4, .int .i64 0, .int .i64 0, .slice none 0 0, .slice none 0 0] 78 (0, 0)) := (g1.block (r + 1) (blk_in' Y4.out) (by have := NG.out.2; intro q; cases q; exact this rfl)).trans Y4.out
  have b4 : w5.cell? ⟨r + 1, 4, none⟩ = some (.int .i64 0) := by simp [World.cell?, a1]
  have z4 : w5.frozen? ⟨r + 1, 4, none⟩ = false := by simp [World.frozen?, a1]
  have U1 : Hid (w5.heap[r]? = some (.cells #[.string ⟨#[]⟩, .int .i64 0, .int .i64 0, .int .i64 0, .int .i64 0, .int .i64 0, .slice none 0 0, .slice none 0 0] 78 (0, 0))) := x1
  have U2 : Hid (w5.heap[r + 1]? = some (.cells #[.string v1, .int .i64 v2, .int .i64 v3, .int .i64 v4, .int .i64 0, .int .i64 0, .slice none 0 0, .slice none 0 0] 78 (0, 0))) := a1
  have U3 : Hid (Cu g kb o c bs s5 w5) := h1
  have U4 : Hid (V4.grownBy w5 (some g)) := g1
  clear x1 a1 h1 g1 X4 Y4
  go_upto_region 7 with fail
  obtain ⟨V5, eV⟩ : ∃ V, V = (w5.setCell ⟨r + 1, 4, none⟩ (.int .i64 v5)) := ⟨_, rfl⟩
  rw [← eV]
  have R5 : Hid (Cu g kb o c bs s5 V5) := by rw [eV]; exact (Cu.setr U3.out NG.out.2 NK.out.2 _ _)
  have G5 : Hid (w.grownBy V5 (some g)) := by rw [eV]; exact (gb_setr (gb_trans G4.out U4.out) (Nat.le_succ_of_le RG.out) _ _)
  have K5 : Hid (w5.grownBy V5 (some (r + 1))) := by rw [eV]; exact gb_set _ _ _ _
  have X5 : Hid (V5.heap[r]? = some (.cells #[.string ⟨#[]⟩, .int .i64 0, .int .i64 0, .int .i64 0, .int .i64 0, .int .i64 0, .slice none 0 0, .slice none 0 0] 78 (0, 0))) := (K5.out.block r (blk_in' U1.out) (by intro q; have := Option.some.inj q; omega)).trans U1.out
  have Y5 : Hid (V5.heap[r + 1]? = some (.cells #[.string v1, .int .i64 v2, .int .i64 v3, .int .i64 v4, .int .i64 v5, .int .i64 0, .slice none 0 0, .slice none 0 0] 78 (0, 0))) := by rw [eV]; show _ = _; simp [World.setCell, Array.getElem?_modify, U2.out]
  have S5 : Hid (r + 2 ≤ V5.heap.size) := blk_in' Y5.out
  clear eV U1 U2 U3 U4 b4 z4 R4 G4 D5 S4 K5
  go_wp2_with (go_at_call 59; refine (D6.out _ R5.out).mono ?_)
  first | (rintro e w6 ⟨he, h1, g1⟩; have he' := he) | (rintro e w6 he h1 g1)
  subst he
  have x1 : w6.heap[r]? = some (.cells #[.string ⟨#[]⟩, .int .i64 0, .int .i64 0, .int .i64 0, .int .i64 0, .int .i64 0, .slice none 0 0, .slice none 0 0] 78 (0, 0)) := (g1.block r (blk_in' X5.out) (by have := NG.out.1; intro q; cases q; exact this rfl)).trans X5.out
  have a1 : w6.heap[r + 1]? = some (.cells #[.string v1, .int .i64 v2, .int .i64 v3, .int .i64 v4, .int .i64 v5, .int .i64 0, .slice none 0 0, .slice none 0 0] 78 (0, 0)) := (g1.block (r + 1) (blk_in' Y5.out) (by have := NG.out.2; intro q; cases q; exact this rfl)).trans Y5.out
  have b5 : w6.cell? ⟨r + 1, 5, none⟩ = some (.int .i64 0) := by simp [World.cell?, a1]
  have z5 : w6.frozen? ⟨r + 1, 5, none⟩ = false := by simp [World.frozen?, a1]
  have U1 : Hid (w6.heap[r]? = some (.cells #[.string ⟨#[]⟩, .int .i64 0, .int .i64 0, .int .i64 0, .int .i64 0, .int .i64 0, .slice none 0 0, .slice none 0 0] 78 (0, 0))) := x1
  have U2 : Hid (w6.heap[r + 1]? = some (.cells #[.string v1, .int .i64 v2, .int .i64 v3, .int .i64 v4, .int .i64 v5, .int .i64 0, .slice none 0 0, .slice none 0 0] 78 (0, 0))) := a1
  have U3 : Hid (Cu g kb o c bs s6 w6) := h1
  have U4 : Hid (V5.grownBy w6 (some g)) := g1
  clear x1 a1 h1 g1 X5 Y5
  go_upto_region 8 with fail
  obtain ⟨V6, eV⟩ : ∃ V, V = (w6.setCell ⟨r + 1, 5, none⟩ (.int .i64 v6)) := ⟨_, rfl⟩
  rw [← eV]
  have R6 : Hid (Cu g kb o c bs s6 V6) := by rw [eV]; exact (Cu.setr U3.out NG.out.2 NK.out.2 _ _)
  have G6 : Hid (w.grownBy V6 (some g)) := by rw [eV]; exact (gb_setr (gb_trans G5.out U4.out) (Nat.le_succ_of_le RG.out) _ _)
  have K6 : Hid (w6.grownBy V6 (some (r + 1))) := by rw [eV]; exact gb_set _ _ _ _
  have X6 : Hid (V6.heap[r]? = some (.cells #[.string ⟨#[]⟩, .int .i64 0, .int .i64 0, .int .i64 0, .int .i64 0, .int .i64 0, .slice none 0 0, .slice none 0 0] 78 (0, 0))) := (K6.out.block r (blk_in' U1.out) (by intro q; have := Option.some.inj q; omega)).trans U1.out
  have Y6 : Hid (V6.heap[r + 1]? = some (.cells #[.string v1, .int .i64 v2, .int .i64 v3, .int .i64 v4, .int .i64 v5, .int .i64 v6, .slice none 0 0, .slice none 0 0] 78 (0, 0))) := by rw [eV]; show _ = _; simp [World.setCell, Array.getElem?_modify, U2.out]
  have S6 : Hid (r + 2 ≤ V6.heap.size) := blk_in' Y6.out
  clear eV U1 U2 U3 U4 b5 z5 R5 G5 D6 S5 K6
  go_wp2_with (go_at_call 29; refine (D7.out _ R6.out).mono ?_)
  first | (rintro e w7 ⟨he, h1, g1⟩; have he' := he) | (rintro e w7 he h1 g1)
  subst he
  have RB : Hid (Cu g kb o c bs s7 w7) := h1
  have YB : Hid (w7.heap[r + 1]? = some (.cells #[.string v1, .int .i64 v2, .int .i64 v3, .int .i64 v4, .int .i64 v5, .int .i64 v6, .slice none 0 0, .slice none 0 0] 78 (0, 0))) := (g1.block (r + 1) (blk_in' Y6.out) (by have := NG.out.2; intro q; cases q; exact this rfl)).trans Y6.out
  have XB : Hid (w7.heap[r]? = some (.cells #[.string ⟨#[]⟩, .int .i64 0, .int .i64 0, .int .i64 0, .int .i64 0, .int .i64 0, .slice none 0 0, .slice none 0 0] 78 (0, 0))) := (g1.block r (blk_in' X6.out) (by have := NG.out.1; intro q; cases q; exact this rfl)).trans X6.out
  have GB : Hid (w.grownBy w7 (some g)) := gb_trans G6.out g1
  have SB : Hid (r + 2 ≤ w7.heap.size) := blk_in' YB.out
  clear h1 g1 R6 Y6 X6 G6 S6 D7
  go_upto_region 9 with fail
  go_wp2
  go_loopw [5] (fun i wr => ∃ (k : Nat) (t : RS) (v : Value), i = .int .i64 k ∧ LsI ro N7.toNat s7 k t ∧ wr.heap[r + 1]? = some (.cells #[.string v1, .int .i64 v2, .int .i64 v3, .int .i64 v4, .int .i64 v5, .int .i64 v6, v, .slice none 0 0] 78 (0, 0)) ∧ MkI 86 10 (fun S w => Is opC) w7.heap.size (rdKL ro N7.toNat s7) k v wr ∧ Cu g kb o c bs t wr ∧ Kp g (r + 1) w7 wr) (fun i _ => N7.toNat - (intOf i).toNat)
  case atStart => exact ⟨0, s7, .slice none 0 0, rfl, LsI.zero, YB.out, MkI.zero _ _ _ _ _ _, RB.out, Kp.refl _ _ _⟩
  case round =>
    obtain ⟨k, t, v, rfl, hL, hY, hM, hR, hG⟩ := hrel
    have LI : Hid (LsI ro N7.toNat s7 k t) := hL
    have YI : Hid (wr.heap[r + 1]? = some (.cells #[.string v1, .int .i64 v2, .int .i64 v3, .int .i64 v4, .int .i64 v5, .int .i64 v6, v, .slice none 0 0] 78 (0, 0))) := hY
    have MI : Hid (MkI 86 10 (fun S w => Is opC) w7.heap.size (rdKL ro N7.toNat s7) k v wr) := hM
    have RI : Hid (Cu g kb o c bs t wr) := hR
    have GI : Hid (Kp g (r + 1) w7 wr) := hG
    have fin : Hid (k = N7.toNat ∨ t.y ≠ 0 → ∃ y c2, wr.heap[r + 1]? = some (.cells #[.string v1, .int .i64 v2, .int .i64 v3, .int .i64 v4, .int .i64 v5, .int .i64 v6, (.slice y (rdKL ro N7.toNat s7).length c2), .slice none 0 0] 78 (0, 0)) ∧ RwF 10 ((fun S w => Is opC) (Fresh w7.heap.size wr.heap.size) wr) (Fresh w7.heap.size wr.heap.size) wr y (rdKL ro N7.toNat s7) ∧ Cu g kb o c bs (rdKS ro N7.toNat s7) wr ∧ Kp g (r + 1) w7 wr) := fun q => by
      obtain ⟨e1, e2⟩ := hL.last q
      rw [e2]
      have fe : few (rdKL ro N7.toNat s7).length := by
        have := rdKL_len ro N7.toNat s7
        have := OK.out; show _ < _; omega
      have hM2 := hM
      rw [← e1] at hM2
      obtain ⟨y, c2, ey, hy⟩ := hM2.done (keptI _) fe
      exact ⟨y, c2, ey ▸ hY, hy, hR, hG⟩
    obtain ⟨c0, c1, c2, c3⟩ := hR.at_.cs
    clear hL hM hR hG hY
    go_upto_region 10 with fail
    go_cut [38] (fun sb wx => sb = .bool (decide ((k : Int) < N7) && decide (t.y = 0)) ∧ wx = wr)
    case first =>
      by_cases hlt : (k : Int) < N7
      · by_cases hy : t.y = 0
        · have EV : Hid ((decide ((k : Int) < N7) && decide (t.y = 0)) = true) := by show _ = _; simp [hlt, hy]
          go_wp2
          go_meet
          case rel => exact ⟨by rw [EV.out], rfl⟩
        · have EV : Hid ((decide ((k : Int) < N7) && decide (t.y = 0)) = false) := by show _ = _; simp [hlt, hy]
          have hy' : (t.y == 0) = false := by simp [hy]
          go_wp2
          go_meet
          case rel => exact ⟨by rw [EV.out], rfl⟩
      · have EV : Hid ((decide ((k : Int) < N7) && decide (t.y = 0)) = false) := by show _ = _; simp [hlt]
        go_wp2
        go_meet
        case rel => exact ⟨by rw [EV.out], rfl⟩
    case rest =>
      obtain ⟨rfl, hw⟩ := hcut
      rw [hw]
      clear hw
      by_cases hgo : (k : Int) < N7 ∧ t.y = 0
      · have hb : (decide ((k : Int) < N7) && decide (t.y = 0)) = true := by simp [hgo.1, hgo.2]
        rw [hb]
        have NX : Hid (LsI ro N7.toNat s7 (k + 1) (ro t).2) := LI.out.next (by omega) hgo.2
        have GE : Hid ((rdKL ro N7.toNat s7)[k]? = some (ro t).1) := LI.out.get (by omega) hgo.2
        have LE : Hid (k + 1 ≤ 4194304) := by have := OK.out; show _ ≤ _; omega
        have LT : Hid ((k : Int) < N7) := hgo.1
        clear fin LI hb hgo c0 c1 c2 c3
        have HC : Hid (∀ (W : World), Cu g kb o c bs t W → Calls Tryz.prog 63 #[.pointer (some ⟨g, 0, none⟩)] W fun e w' => e = .returned (.agg #[.int .i64 (ro t).1.cd, .int .i64 (ro t).1.a, .int .i64 (ro t).1.b, .int .i64 (ro t).1.c, .int .i64 (ro t).1.d, .int .i64 (ro t).1.lo, .int .i64 (ro t).1.hi, .int .u8 (ro t).1.vk, .int .u64 (ro t).1.vb, .string (ro t).1.vs]) ∧ Cu g kb o c bs (ro t).2 w' ∧ W.grownBy w' (some g)) := H7.out t
        generalize (ro t).1 = ee at *
        generalize (ro t).2 = t2 at *
        obtain ⟨vss, ehs, hvn, how, hev⟩ := MI.out
        have EHS : Hid (vss.length = k) := ehs
        have HVN : Hid (∀ v ∈ vss, v.length = 10) := hvn
        have OW : Hid (wr.ownsRow w7.heap.size 86 10 v k vss.flatten) := how
        have EV : Hid _ := hev
        clear ehs hvn how hev MI
        have RN : Hid (r + 1 < w7.heap.size ∧ g < w7.heap.size ∧ kb < w7.heap.size ∧ r + 1 ≠ g ∧ r + 1 ≠ kb) := ⟨by have := SB.out; omega, RB.out.lt, RB.out.kl, NG.out.2, NK.out.2⟩
        go_upto_region 12 with fail
        refine wp_region_J 7 (fun V => V.heap[r + 1]? = some (.cells #[.string v1, .int .i64 v2, .int .i64 v3, .int .i64 v4, .int .i64 v5, .int .i64 v6, v, .slice none 0 0] 78 (0, 0))) (by kernel_rfl) YI.out (fun hHeld => ?_)
        refine wpAnyJ_take (i := 0) (v := .pointer (some ⟨r + 1, 6, none⟩)) rfl (by kernel_rfl) (by kernel_rfl) (by kernel_rfl) (by kernel_rfl) (fun _ _ _ h => h) (Or.inl ⟨by rfl, fun V hV => ?_⟩) hHeld ?_
        · go_simp
        simp only [Act.put, List.setIfInBounds_toArray, List.getElem_toArray, List.getElem_cons_zero, List.getElem_cons_succ, List.set_cons_zero, List.set_cons_succ]
        refine wpAnyJ_take (i := 1) (v := v) rfl (by kernel_rfl) (by kernel_rfl) (by kernel_rfl) (by kernel_rfl) (fun _ _ _ h => h) (Or.inl ⟨by rfl, fun V hV => ?_⟩) hHeld ?_
        · have cc : V.cell? ⟨r + 1, 6, none⟩ = some v := by simp [World.cell?, show V.heap[r + 1]? = _ from hV]
          go_simp
        simp only [Act.put, List.setIfInBounds_toArray, List.getElem_toArray, List.getElem_cons_zero, List.getElem_cons_succ, List.set_cons_zero, List.set_cons_succ]
        refine wpAnyJ_take (i := 2) (v := .pointer (some ⟨g, 0, none⟩)) rfl (by kernel_rfl) (by kernel_rfl) (by kernel_rfl) (by kernel_rfl) (fun _ _ _ h => h) (Or.inl ⟨by rfl, fun V hV => ?_⟩) hHeld ?_
        · go_simp
        simp only [Act.put, List.setIfInBounds_toArray, List.getElem_toArray, List.getElem_cons_zero, List.getElem_cons_succ, List.set_cons_zero, List.set_cons_succ]
        refine wpAnyJ_one (i := 3) (by kernel_rfl) rfl (fun K hK => ?_)
        go_simp
        refine (HC.out _ RI.out.drew).mono ?_
        rintro e w5 ⟨he, h5, g5⟩
        subst he
        have Y5 : w5.heap[r + 1]? = some (.cells #[.string v1, .int .i64 v2, .int .i64 v3, .int .i64 v4, .int .i64 v5, .int .i64 v6, v, .slice none 0 0] 78 (0, 0)) := (g5.block (r + 1) (blk_in' YI.out) (by have := RN.out.2.2.2.1; intro q; exact this (Option.some.inj q))).trans YI.out
        have R5 : Hid (Cu g kb o c bs t2 w5) := h5
        have G5 : Hid (wr.grownBy w5 (some g)) := ⟨g5.os, g5.tape, g5.output, g5.size, g5.block⟩
        clear h5 g5
        refine hK.out _ _ (fun _ => Y5) ?_
        clear hK K
        try simp only [Act.put, List.setIfInBounds_toArray, List.getElem_toArray, List.getElem_cons_zero, List.getElem_cons_succ, List.set_cons_zero, List.set_cons_succ]
        refine wpAnyJ_one (i := 4) (by kernel_rfl) rfl (fun K hK => ?_)
        go_simp
        have Y6 : Hid (∀ X : Obj, (w5.alloc X).heap[r + 1]? = some (.cells #[.string v1, .int .i64 v2, .int .i64 v3, .int .i64 v4, .int .i64 v5, .int .i64 v6, v, .slice none 0 0] 78 (0, 0))) := fun X => ((gb_alloc w5 X none).block (r + 1) (blk_in' Y5) (by simp)).trans Y5
        refine hK.out _ _ (fun _ => Y6.out _) ?_
        clear hK K hHeld
        try simp only [Act.put, List.setIfInBounds_toArray, List.getElem_toArray, List.getElem_cons_zero, List.getElem_cons_succ, List.set_cons_zero, List.set_cons_succ]
        refine wpAnyJ_one (i := 5) (by kernel_rfl) rfl (fun K hK => ?_)
        rw [if_pos (by rfl)]
        have OW5 : Hid (∀ X : Obj, (w5.alloc X).ownsRow w7.heap.size 86 10 v k vss.flatten) := fun X => (OW.out.kept G5.out (ob_ne OW.out.lt RN.out.2.1)).alloc X
        have NW : Hid (∀ j u, (opC ee)[j]? = some u → (w5.alloc (.cells (opC ee).toArray 86)).cell? ((⟨w5.heap.size, 0, none⟩ : Addr).add j) = some u) := fun j u h => mk_cells w5 _ _ j u h
        have BZ : Hid (∀ X : Obj, w7.heap.size ≤ (w5.alloc X).heap.size) := fun X => by have := GI.out.size; have := G5.out.size; simp; omega
        obtain ⟨i, z, hi, hz, hs', hy, hzc⟩ := infRlO
        refine wp_app_at _ _ 75 rfl w7.heap.size 86 i z 10 88 Tryz.underlying75 hi hz hs' hy hzc (by decide) v k vss.flatten rfl (OW5.out _) ⟨w5.heap.size, 0, none⟩ 1 1 (opC ee) rfl rfl NW.out (by intro u hu; simp at hu; rcases hu with h | h | h | h | h | h | h | h | h | h <;> subst h <;> rfl) (by have := LE.out; simp [maxLen]; omega) (by have := LE.out; omega) (BZ.out _) ?_
        intro v' wz q1 q2 q3 q4
        obtain ⟨vx, vc, rfl⟩ := own_form q1
        have Q1 : Hid _ := q1
        have Q2 : Hid ((w5.alloc (.cells (opC ee).toArray 86)).grownBy wz v.ownBlock) := q2
        have Q4 : Hid _ := q4
        clear q1 q2 q3 q4 hi hz hs' hy hzc
        have hob : ∀ i, v.ownBlock = some i → w7.heap.size ≤ i := fun i hi => (OW.out.lt i hi).1
        have Y7 : wz.heap[r + 1]? = some (.cells #[.string v1, .int .i64 v2, .int .i64 v3, .int .i64 v4, .int .i64 v5, .int .i64 v6, v, .slice none 0 0] 78 (0, 0)) := (Q2.out.block (r + 1) (blk_in' (Y6.out _)) (fun e => by have := hob _ e.symm; have := RN.out.1; omega)).trans (Y6.out _)
        refine hK.out _ _ (fun _ => Y7) ?_
        clear hK K
        try simp only [Act.put, List.setIfInBounds_toArray, List.getElem_toArray, List.getElem_cons_zero, List.getElem_cons_succ, List.set_cons_zero, List.set_cons_succ]
        refine wpAnyJ_one (i := 6) (by kernel_rfl) rfl (fun K hK => ?_)
        go_simp
        refine hK.out _ _ (fun _ => Y7) ?_
        clear hK K
        try simp only [Act.put, List.setIfInBounds_toArray, List.getElem_toArray, List.getElem_cons_zero, List.getElem_cons_succ, List.set_cons_zero, List.set_cons_succ]
        have cc : wz.cell? ⟨r + 1, 6, none⟩ = some v := by simp [World.cell?, Y7]
        have cz : wz.frozen? ⟨r + 1, 6, none⟩ = false := by simp [World.frozen?, Y7]
        refine wpAnyJ_one (i := 7) (by kernel_rfl) rfl (fun K hK => ?_)
        go_simp
        refine hK.out _ _ (fun h => nomatch (show true = false from h)) ?_
        clear hK K cc cz
        refine wpAnyJ_done (by kernel_rfl) ?_ _
        obtain ⟨wy, e8⟩ : ∃ wy, wy = wz.setCell ⟨r + 1, 6, none⟩ (.slice vx (k + 1) vc) := ⟨_, rfl⟩
        rw [← e8]
        have B5 : wr.grownBy (w5.alloc (.cells (opC ee).toArray 86)) (some g) := gb_trans G5.out (gb_alloc _ _ _)
        have Y8 : Hid (wy.heap[r + 1]? = some (.cells #[.string v1, .int .i64 v2, .int .i64 v3, .int .i64 v4, .int .i64 v5, .int .i64 v6, (.slice vx (k + 1) vc), .slice none 0 0] 78 (0, 0))) := by rw [e8]; show _ = _; simp [World.setCell, Array.getElem?_modify, Y7]
        have M8 : Hid (MkI 86 10 (fun S w => Is opC) w7.heap.size (rdKL ro N7.toNat s7) (k + 1) (.slice vx (k + 1) vc) wy) := by rw [e8]; exact MkI.setc (keptI _) (MkI.stepG (keptI _) RN.out.2.1 EHS.out HVN.out EV.out OW.out.lt _ _ GE.out rfl GI.out.size B5 rfl Q2.out Q1.out Q4.out) RN.out.1
        have R8 : Hid (Cu g kb o c bs t2 wy) := by
          rw [e8]
          exact ((R5.out.al _).grown Q2.out (fun q => by have := hob _ q; have := RN.out.2.1; omega) (fun q => by have := hob _ q; have := RN.out.2.2.1; omega)).setr RN.out.2.2.2.1 RN.out.2.2.2.2 _ _
        have G8 : Hid (Kp g (r + 1) w7 wy) := by rw [e8]; exact (Kp.own Q2.out hob (GI.out.trans (Kp.of B5))).set _ _
        clear e8 Y7 B5 hob Q1 Q2 Q4 OW EV EHS HVN G5 R5 Y6 Y5
        have ew : wrap64 ((k : Int) + 1) = (k : Int) + 1 := by have := LE.out; unfold wrap64; omega
        go_step
        go_wp2
        rw [ew]
        refine ⟨⟨k + 1, t2, (.slice vx (k + 1) vc), rfl, NX.out, Y8.out, M8.out, R8.out, G8.out⟩, ?_⟩
        have := LT.out
        show N7.toNat - ((k : Int) + 1).toNat < N7.toNat - (k : Int).toNat
        omega
      · have hb : (decide ((k : Int) < N7) && decide (t.y = 0)) = false := by
          by_cases q : (k : Int) < N7
          · have : ¬ t.y = 0 := fun z => hgo ⟨q, z⟩
            simp [this]
          · simp [q]
        rw [hb]
        have F2 : Hid (∃ y c2, wr.heap[r + 1]? = some (.cells #[.string v1, .int .i64 v2, .int .i64 v3, .int .i64 v4, .int .i64 v5, .int .i64 v6, (.slice y (rdKL ro N7.toNat s7).length c2), .slice none 0 0] 78 (0, 0)) ∧ RwF 10 ((fun S w => Is opC) (Fresh w7.heap.size wr.heap.size) wr) (Fresh w7.heap.size wr.heap.size) wr y (rdKL ro N7.toNat s7) ∧ Cu g kb o c bs (rdKS ro N7.toNat s7) wr ∧ Kp g (r + 1) w7 wr) := fin.out (by
          have := LI.out.1
          by_cases q : (k : Int) < N7
          · exact Or.inr (fun z => hgo ⟨q, z⟩)
          · exact Or.inl (by omega))
        clear fin LI MI RI GI YI hb hgo c0 c1 c2 c3
        obtain ⟨y7, c7, hY, hQ, hR, hKp⟩ := F2.out
        have RE : Hid (Cu g kb o c bs (rdKS ro N7.toNat s7) wr) := hR
        clear F2
        go_wp2_with (go_at_call 29; refine (D8.out _ RE.out).mono ?_)
        first | (rintro e w8 ⟨he, h1, g1⟩; have he' := he) | (rintro e w8 he h1 g1)
        subst he
        have RB' : Hid (Cu g kb o c bs s8 w8) := h1
        have YB' : Hid (w8.heap[r + 1]? = some (.cells #[.string v1, .int .i64 v2, .int .i64 v3, .int .i64 v4, .int .i64 v5, .int .i64 v6, (.slice y7 (rdKL ro N7.toNat s7).length c7), .slice none 0 0] 78 (0, 0))) := (g1.block (r + 1) (blk_in' hY) (by have := NG.out.2; intro q; exact this (Option.some.inj q))).trans hY
        have XB' : Hid (w8.heap[r]? = some (.cells #[.string ⟨#[]⟩, .int .i64 0, .int .i64 0, .int .i64 0, .int .i64 0, .int .i64 0, .slice none 0 0, .slice none 0 0] 78 (0, 0))) := (g1.block r (by have := hKp.size; have := SB.out; omega) (by have := NG.out.1; intro q; exact this (Option.some.inj q))).trans ((hKp.block r (by have := SB.out; omega) NG.out.1 (by omega)).trans XB.out)
        have GB' : Hid (w.grownBy w8 (some g)) := gb_trans (Kp.gb GB.out hKp (Nat.le_succ_of_le RG.out)) g1
        have QA : Hid (RwF 10 ((fun S w => Is opC) (Fresh (r + 2) w8.heap.size) w8) (Fresh (r + 2) w8.heap.size) w8 y7 (rdKL ro N7.toNat s7)) := rw_keep (P := fun S w => Is opC) (keptI _) (RwF.subK (P := fun S w => Is opC) (keptI _) (up_sub' SB.out (Nat.le_refl _)) hQ) g1 (by have := GR.out; omega)
        have SB' : Hid (r + 2 ≤ w8.heap.size) := blk_in' YB'.out
        clear h1 g1 RE hY hQ hR hKp RB YB XB GB SB D8
        have RB := RB'
        have YB := YB'
        have XB := XB'
        have GB := GB'
        have SB := SB'
        clear RB' YB' XB' GB' SB'
        go_upto_region 14 with fail
        go_wp2
        go_loopw [6] (fun i wr => ∃ (k : Nat) (t : RS) (v : Value), i = .int .i64 k ∧ LsI rl N8.toNat s8 k t ∧ wr.heap[r + 1]? = some (.cells #[.string v1, .int .i64 v2, .int .i64 v3, .int .i64 v4, .int .i64 v5, .int .i64 v6, (.slice y7 (rdKL ro N7.toNat s7).length c7), v] 78 (0, 0)) ∧ MkI 110 3 (fun S w => Is lpC) w8.heap.size (rdKL rl N8.toNat s8) k v wr ∧ Cu g kb o c bs t wr ∧ Kp g (r + 1) w8 wr) (fun i _ => N8.toNat - (intOf i).toNat)
        case atStart => exact ⟨0, s8, .slice none 0 0, rfl, LsI.zero, YB.out, MkI.zero _ _ _ _ _ _, RB.out, Kp.refl _ _ _⟩
        case round =>
          obtain ⟨k, t, v, rfl, hL, hY, hM, hR, hG⟩ := hrel
          have LI : Hid (LsI rl N8.toNat s8 k t) := hL
          have YI : Hid (wr.heap[r + 1]? = some (.cells #[.string v1, .int .i64 v2, .int .i64 v3, .int .i64 v4, .int .i64 v5, .int .i64 v6, (.slice y7 (rdKL ro N7.toNat s7).length c7), v] 78 (0, 0))) := hY
          have MI : Hid (MkI 110 3 (fun S w => Is lpC) w8.heap.size (rdKL rl N8.toNat s8) k v wr) := hM
          have RI : Hid (Cu g kb o c bs t wr) := hR
          have GI : Hid (Kp g (r + 1) w8 wr) := hG
          have fin : Hid (k = N8.toNat ∨ t.y ≠ 0 → ∃ y c2, wr.heap[r + 1]? = some (.cells #[.string v1, .int .i64 v2, .int .i64 v3, .int .i64 v4, .int .i64 v5, .int .i64 v6, (.slice y7 (rdKL ro N7.toNat s7).length c7), (.slice y (rdKL rl N8.toNat s8).length c2)] 78 (0, 0)) ∧ RwF 3 ((fun S w => Is lpC) (Fresh w8.heap.size wr.heap.size) wr) (Fresh w8.heap.size wr.heap.size) wr y (rdKL rl N8.toNat s8) ∧ Cu g kb o c bs (rdKS rl N8.toNat s8) wr ∧ Kp g (r + 1) w8 wr) := fun q => by
            obtain ⟨e1, e2⟩ := hL.last q
            rw [e2]
            have fe : few (rdKL rl N8.toNat s8).length := by
              have := rdKL_len rl N8.toNat s8
              have := OK.out; show _ < _; omega
            have hM2 := hM
            rw [← e1] at hM2
            obtain ⟨y, c2, ey, hy⟩ := hM2.done (keptI _) fe
            exact ⟨y, c2, ey ▸ hY, hy, hR, hG⟩
          obtain ⟨c0, c1, c2, c3⟩ := hR.at_.cs
          clear hL hM hR hG hY
          go_upto_region 15 with fail
          go_cut [59] (fun sb wx => sb = .bool (decide ((k : Int) < N8) && decide (t.y = 0)) ∧ wx = wr)
          case first =>
            by_cases hlt : (k : Int) < N8
            · by_cases hy : t.y = 0
              · have EV : Hid ((decide ((k : Int) < N8) && decide (t.y = 0)) = true) := by show _ = _; simp [hlt, hy]
                go_wp2
                go_meet
                case rel => exact ⟨by rw [EV.out], rfl⟩
              · have EV : Hid ((decide ((k : Int) < N8) && decide (t.y = 0)) = false) := by show _ = _; simp [hlt, hy]
                have hy' : (t.y == 0) = false := by simp [hy]
                go_wp2
                go_meet
                case rel => exact ⟨by rw [EV.out], rfl⟩
            · have EV : Hid ((decide ((k : Int) < N8) && decide (t.y = 0)) = false) := by show _ = _; simp [hlt]
              go_wp2
              go_meet
              case rel => exact ⟨by rw [EV.out], rfl⟩
          case rest =>
            obtain ⟨rfl, hw⟩ := hcut
            rw [hw]
            clear hw
            by_cases hgo : (k : Int) < N8 ∧ t.y = 0
            · have hb : (decide ((k : Int) < N8) && decide (t.y = 0)) = true := by simp [hgo.1, hgo.2]
              rw [hb]
              have NX : Hid (LsI rl N8.toNat s8 (k + 1) (rl t).2) := LI.out.next (by omega) hgo.2
              have GE : Hid ((rdKL rl N8.toNat s8)[k]? = some (rl t).1) := LI.out.get (by omega) hgo.2
              have LE : Hid (k + 1 ≤ 4194304) := by have := OK.out; show _ ≤ _; omega
              have LT : Hid ((k : Int) < N8) := hgo.1
              clear fin LI hb hgo c0 c1 c2 c3
              rw [HRL.out t] at GE NX
              have HC : Hid (∀ (W : World), Cu g kb o c bs t W → Calls Tryz.prog 59 #[.pointer (some ⟨g, 0, none⟩)] W fun e w' => e = .returned (.int .i64 (rn t).1) ∧ Cu g kb o c bs (rn t).2 w' ∧ W.grownBy w' (some g)) := H8.out t
              generalize (rn t).1 = e1 at *
              generalize (rn t).2 = ta at *
              have HD : Hid (∀ (W : World), Cu g kb o c bs ta W → Calls Tryz.prog 59 #[.pointer (some ⟨g, 0, none⟩)] W fun e w' => e = .returned (.int .i64 (rn ta).1) ∧ Cu g kb o c bs (rn ta).2 w' ∧ W.grownBy w' (some g)) := H8.out ta
              generalize (rn ta).1 = e2 at *
              generalize (rn ta).2 = tb at *
              have HE : Hid (∀ (W : World), Cu g kb o c bs tb W → Calls Tryz.prog 59 #[.pointer (some ⟨g, 0, none⟩)] W fun e w' => e = .returned (.int .i64 (rn tb).1) ∧ Cu g kb o c bs (rn tb).2 w' ∧ W.grownBy w' (some g)) := H8.out tb
              generalize (rn tb).1 = e3 at *
              generalize (rn tb).2 = t2 at *
              obtain ⟨vss, ehs, hvn, how, hev⟩ := MI.out
              have EHS : Hid (vss.length = k) := ehs
              have HVN : Hid (∀ v ∈ vss, v.length = 3) := hvn
              have OW : Hid (wr.ownsRow w8.heap.size 110 3 v k vss.flatten) := how
              have EV : Hid _ := hev
              clear ehs hvn how hev MI
              have RN : Hid (r + 1 < w8.heap.size ∧ g < w8.heap.size ∧ kb < w8.heap.size ∧ r + 1 ≠ g ∧ r + 1 ≠ kb) := ⟨by have := SB.out; omega, RB.out.lt, RB.out.kl, NG.out.2, NK.out.2⟩
              have YI0 : Hid (wr.heap[r + 1]? = some (.cells #[.string v1, .int .i64 v2, .int .i64 v3, .int .i64 v4, .int .i64 v5, .int .i64 v6, (.slice y7 (rdKL ro N7.toNat s7).length c7), v] 78 (0, 0))) := YI.out
              have RI0 : Hid (Cu g kb o c bs t wr) := RI.out
              have GI0 : Hid (wr.grownBy wr (some g)) := gb_refl _ _
              go_wp2_with (go_at_call 59; refine (HC.out _ RI0.out).mono ?_)
              first | (rintro e wa ⟨he, h5, g5⟩; have he' := he) | (rintro e wa he h5 g5)
              subst he
              have YI1 : Hid (wa.heap[r + 1]? = some (.cells #[.string v1, .int .i64 v2, .int .i64 v3, .int .i64 v4, .int .i64 v5, .int .i64 v6, (.slice y7 (rdKL ro N7.toNat s7).length c7), v] 78 (0, 0))) := (g5.block (r + 1) (blk_in' YI0.out) (by have := RN.out.2.2.2.1; intro q; exact this (Option.some.inj q))).trans YI0.out
              have RI1 : Hid (Cu g kb o c bs ta wa) := h5
              have GI1 : Hid (wr.grownBy wa (some g)) := gb_trans GI0.out g5
              clear h5 g5 YI0 RI0 GI0 HC
              go_wp2_with (go_at_call 59; refine (HD.out _ RI1.out).mono ?_)
              first | (rintro e wb ⟨he, h5, g5⟩; have he' := he) | (rintro e wb he h5 g5)
              subst he
              have YI2 : Hid (wb.heap[r + 1]? = some (.cells #[.string v1, .int .i64 v2, .int .i64 v3, .int .i64 v4, .int .i64 v5, .int .i64 v6, (.slice y7 (rdKL ro N7.toNat s7).length c7), v] 78 (0, 0))) := (g5.block (r + 1) (blk_in' YI1.out) (by have := RN.out.2.2.2.1; intro q; exact this (Option.some.inj q))).trans YI1.out
              have RI2 : Hid (Cu g kb o c bs tb wb) := h5
              have GI2 : Hid (wr.grownBy wb (some g)) := gb_trans GI1.out g5
              clear h5 g5 YI1 RI1 GI1 HD
              go_upto_region 19 with fail
              refine wp_region_J 10 (fun V => V.heap[r + 1]? = some (.cells #[.string v1, .int .i64 v2, .int .i64 v3, .int .i64 v4, .int .i64 v5, .int .i64 v6, (.slice y7 (rdKL ro N7.toNat s7).length c7), v] 78 (0, 0))) (by kernel_rfl) YI2.out (fun hHeld => ?_)
              refine wpAnyJ_take (i := 0) (v := .pointer (some ⟨r + 1, 7, none⟩)) rfl (by kernel_rfl) (by kernel_rfl) (by kernel_rfl) (by kernel_rfl) (fun _ _ _ h => h) (Or.inl ⟨by rfl, fun V hV => ?_⟩) hHeld ?_
              · go_simp
              simp only [Act.put, List.setIfInBounds_toArray, List.getElem_toArray, List.getElem_cons_zero, List.getElem_cons_succ, List.set_cons_zero, List.set_cons_succ]
              refine wpAnyJ_take (i := 1) (v := v) rfl (by kernel_rfl) (by kernel_rfl) (by kernel_rfl) (by kernel_rfl) (fun _ _ _ h => h) (Or.inl ⟨by rfl, fun V hV => ?_⟩) hHeld ?_
              · have cc : V.cell? ⟨r + 1, 7, none⟩ = some v := by simp [World.cell?, show V.heap[r + 1]? = _ from hV]
                go_simp
              simp only [Act.put, List.setIfInBounds_toArray, List.getElem_toArray, List.getElem_cons_zero, List.getElem_cons_succ, List.set_cons_zero, List.set_cons_succ]
              refine wpAnyJ_take (i := 2) (v := .int .i64 e1) rfl (by kernel_rfl) (by kernel_rfl) (by kernel_rfl) (by kernel_rfl) (fun _ _ _ h => h) (Or.inl ⟨by rfl, fun V hV => ?_⟩) hHeld ?_
              · go_simp
              simp only [Act.put, List.setIfInBounds_toArray, List.getElem_toArray, List.getElem_cons_zero, List.getElem_cons_succ, List.set_cons_zero, List.set_cons_succ]
              refine wpAnyJ_take (i := 3) (v := .int .i64 e2) rfl (by kernel_rfl) (by kernel_rfl) (by kernel_rfl) (by kernel_rfl) (fun _ _ _ h => h) (Or.inl ⟨by rfl, fun V hV => ?_⟩) hHeld ?_
              · go_simp
              simp only [Act.put, List.setIfInBounds_toArray, List.getElem_toArray, List.getElem_cons_zero, List.getElem_cons_succ, List.set_cons_zero, List.set_cons_succ]
              refine wpAnyJ_take (i := 4) (v := .pointer (some ⟨g, 0, none⟩)) rfl (by kernel_rfl) (by kernel_rfl) (by kernel_rfl) (by kernel_rfl) (fun _ _ _ h => h) (Or.inl ⟨by rfl, fun V hV => ?_⟩) hHeld ?_
              · go_simp
              simp only [Act.put, List.setIfInBounds_toArray, List.getElem_toArray, List.getElem_cons_zero, List.getElem_cons_succ, List.set_cons_zero, List.set_cons_succ]
              refine wpAnyJ_one (i := 5) (by kernel_rfl) rfl (fun K hK => ?_)
              go_simp
              refine (HE.out _ RI2.out.drew).mono ?_
              rintro e w5 ⟨he, h5, g5⟩
              subst he
              have Y5 : w5.heap[r + 1]? = some (.cells #[.string v1, .int .i64 v2, .int .i64 v3, .int .i64 v4, .int .i64 v5, .int .i64 v6, (.slice y7 (rdKL ro N7.toNat s7).length c7), v] 78 (0, 0)) := (g5.block (r + 1) (blk_in' YI2.out) (by have := RN.out.2.2.2.1; intro q; exact this (Option.some.inj q))).trans YI2.out
              have R5 : Hid (Cu g kb o c bs t2 w5) := h5
              have G5 : Hid (wr.grownBy w5 (some g)) := gb_trans GI2.out ⟨g5.os, g5.tape, g5.output, g5.size, g5.block⟩
              clear h5 g5
              refine hK.out _ _ (fun _ => Y5) ?_
              clear hK K
              try simp only [Act.put, List.setIfInBounds_toArray, List.getElem_toArray, List.getElem_cons_zero, List.getElem_cons_succ, List.set_cons_zero, List.set_cons_succ]
              refine wpAnyJ_one (i := 6) (by kernel_rfl) rfl (fun K hK => ?_)
              go_simp
              refine hK.out _ _ (fun _ => Y5) ?_
              clear hK K
              try simp only [Act.put, List.setIfInBounds_toArray, List.getElem_toArray, List.getElem_cons_zero, List.getElem_cons_succ, List.set_cons_zero, List.set_cons_succ]
              refine wpAnyJ_one (i := 7) (by kernel_rfl) rfl (fun K hK => ?_)
              go_simp
              have Y6 : Hid (∀ X : Obj, (w5.alloc X).heap[r + 1]? = some (.cells #[.string v1, .int .i64 v2, .int .i64 v3, .int .i64 v4, .int .i64 v5, .int .i64 v6, (.slice y7 (rdKL ro N7.toNat s7).length c7), v] 78 (0, 0))) := fun X => ((gb_alloc w5 X none).block (r + 1) (blk_in' Y5) (by simp)).trans Y5
              refine hK.out _ _ (fun _ => Y6.out _) ?_
              clear hK K hHeld
              try simp only [Act.put, List.setIfInBounds_toArray, List.getElem_toArray, List.getElem_cons_zero, List.getElem_cons_succ, List.set_cons_zero, List.set_cons_succ]
              refine wpAnyJ_one (i := 8) (by kernel_rfl) rfl (fun K hK => ?_)
              rw [if_pos (by rfl)]
              have OW5 : Hid (∀ X : Obj, (w5.alloc X).ownsRow w8.heap.size 110 3 v k vss.flatten) := fun X => (OW.out.kept G5.out (ob_ne OW.out.lt RN.out.2.1)).alloc X
              have NW : Hid (∀ j u, (lpC ⟨e1, e2, e3⟩)[j]? = some u → (w5.alloc (.cells (lpC ⟨e1, e2, e3⟩).toArray 110)).cell? ((⟨w5.heap.size, 0, none⟩ : Addr).add j) = some u) := fun j u h => mk_cells w5 _ _ j u h
              have BZ : Hid (∀ X : Obj, w8.heap.size ≤ (w5.alloc X).heap.size) := fun X => by have := GI.out.size; have := G5.out.size; simp; omega
              obtain ⟨i, z, hi, hz, hs', hy, hzc⟩ := infRlL
              refine wp_app_at _ _ 76 rfl w8.heap.size 110 i z 3 24 Tryz.underlying76 hi hz hs' hy hzc (by decide) v k vss.flatten rfl (OW5.out _) ⟨w5.heap.size, 0, none⟩ 1 1 (lpC ⟨e1, e2, e3⟩) rfl rfl NW.out (by intro u hu; simp at hu; rcases hu with h | h | h <;> subst h <;> rfl) (by have := LE.out; simp [maxLen]; omega) (by have := LE.out; omega) (BZ.out _) ?_
              intro v' wz q1 q2 q3 q4
              obtain ⟨vx, vc, rfl⟩ := own_form q1
              have Q1 : Hid _ := q1
              have Q2 : Hid ((w5.alloc (.cells (lpC ⟨e1, e2, e3⟩).toArray 110)).grownBy wz v.ownBlock) := q2
              have Q4 : Hid _ := q4
              clear q1 q2 q3 q4 hi hz hs' hy hzc
              have hob : ∀ i, v.ownBlock = some i → w8.heap.size ≤ i := fun i hi => (OW.out.lt i hi).1
              have Y7 : wz.heap[r + 1]? = some (.cells #[.string v1, .int .i64 v2, .int .i64 v3, .int .i64 v4, .int .i64 v5, .int .i64 v6, (.slice y7 (rdKL ro N7.toNat s7).length c7), v] 78 (0, 0)) := (Q2.out.block (r + 1) (blk_in' (Y6.out _)) (fun e => by have := hob _ e.symm; have := RN.out.1; omega)).trans (Y6.out _)
              refine hK.out _ _ (fun _ => Y7) ?_
              clear hK K
              try simp only [Act.put, List.setIfInBounds_toArray, List.getElem_toArray, List.getElem_cons_zero, List.getElem_cons_succ, List.set_cons_zero, List.set_cons_succ]
              refine wpAnyJ_one (i := 9) (by kernel_rfl) rfl (fun K hK => ?_)
              go_simp
              refine hK.out _ _ (fun _ => Y7) ?_
              clear hK K
              try simp only [Act.put, List.setIfInBounds_toArray, List.getElem_toArray, List.getElem_cons_zero, List.getElem_cons_succ, List.set_cons_zero, List.set_cons_succ]
              have cc : wz.cell? ⟨r + 1, 7, none⟩ = some v := by simp [World.cell?, Y7]
              have cz : wz.frozen? ⟨r + 1, 7, none⟩ = false := by simp [World.frozen?, Y7]
              refine wpAnyJ_one (i := 10) (by kernel_rfl) rfl (fun K hK => ?_)
              go_simp
              refine hK.out _ _ (fun h => nomatch (show true = false from h)) ?_
              clear hK K cc cz
              refine wpAnyJ_done (by kernel_rfl) ?_ _
              obtain ⟨wy, e8⟩ : ∃ wy, wy = wz.setCell ⟨r + 1, 7, none⟩ (.slice vx (k + 1) vc) := ⟨_, rfl⟩
              rw [← e8]
              have B5 : wr.grownBy (w5.alloc (.cells (lpC ⟨e1, e2, e3⟩).toArray 110)) (some g) := gb_trans G5.out (gb_alloc _ _ _)
              have Y8 : Hid (wy.heap[r + 1]? = some (.cells #[.string v1, .int .i64 v2, .int .i64 v3, .int .i64 v4, .int .i64 v5, .int .i64 v6, (.slice y7 (rdKL ro N7.toNat s7).length c7), (.slice vx (k + 1) vc)] 78 (0, 0))) := by rw [e8]; show _ = _; simp [World.setCell, Array.getElem?_modify, Y7]
              have M8 : Hid (MkI 110 3 (fun S w => Is lpC) w8.heap.size (rdKL rl N8.toNat s8) (k + 1) (.slice vx (k + 1) vc) wy) := by rw [e8]; exact MkI.setc (keptI _) (MkI.stepG (keptI _) RN.out.2.1 EHS.out HVN.out EV.out OW.out.lt _ _ GE.out rfl GI.out.size B5 rfl Q2.out Q1.out Q4.out) RN.out.1
              have R8 : Hid (Cu g kb o c bs t2 wy) := by
                rw [e8]
                exact ((R5.out.al _).grown Q2.out (fun q => by have := hob _ q; have := RN.out.2.1; omega) (fun q => by have := hob _ q; have := RN.out.2.2.1; omega)).setr RN.out.2.2.2.1 RN.out.2.2.2.2 _ _
              have G8 : Hid (Kp g (r + 1) w8 wy) := by rw [e8]; exact (Kp.own Q2.out hob (GI.out.trans (Kp.of B5))).set _ _
              clear e8 Y7 B5 hob Q1 Q2 Q4 OW EV EHS HVN G5 R5 Y6 Y5
              have ew : wrap64 ((k : Int) + 1) = (k : Int) + 1 := by have := LE.out; unfold wrap64; omega
              go_step
              go_wp2
              rw [ew]
              refine ⟨⟨k + 1, t2, (.slice vx (k + 1) vc), rfl, NX.out, Y8.out, M8.out, R8.out, G8.out⟩, ?_⟩
              have := LT.out
              show N8.toNat - ((k : Int) + 1).toNat < N8.toNat - (k : Int).toNat
              omega
            · have hb : (decide ((k : Int) < N8) && decide (t.y = 0)) = false := by
                by_cases q : (k : Int) < N8
                · have : ¬ t.y = 0 := fun z => hgo ⟨q, z⟩
                  simp [this]
                · simp [q]
              rw [hb]
              have F2 : Hid (∃ y c2, wr.heap[r + 1]? = some (.cells #[.string v1, .int .i64 v2, .int .i64 v3, .int .i64 v4, .int .i64 v5, .int .i64 v6, (.slice y7 (rdKL ro N7.toNat s7).length c7), (.slice y (rdKL rl N8.toNat s8).length c2)] 78 (0, 0)) ∧ RwF 3 ((fun S w => Is lpC) (Fresh w8.heap.size wr.heap.size) wr) (Fresh w8.heap.size wr.heap.size) wr y (rdKL rl N8.toNat s8) ∧ Cu g kb o c bs (rdKS rl N8.toNat s8) wr ∧ Kp g (r + 1) w8 wr) := fin.out (by
                have := LI.out.1
                by_cases q : (k : Int) < N8
                · exact Or.inr (fun z => hgo ⟨q, z⟩)
                · exact Or.inl (by omega))
              clear fin LI MI RI GI YI hb hgo c0 c1 c2 c3
              obtain ⟨y8, c8, hY, hQ, hR, hKp⟩ := F2.out
              clear F2
              have YF : Hid (wr.heap[r + 1]? = some (.cells #[.string v1, .int .i64 v2, .int .i64 v3, .int .i64 v4, .int .i64 v5, .int .i64 v6, .slice y7 (rdKL ro N7.toNat s7).length c7, .slice y8 (rdKL rl N8.toNat s8).length c8] 78 (0, 0))) := hY
              have RF : Hid (Cu g kb o c bs (rdKS rl N8.toNat s8) wr) := hR
              have XF : Hid (wr.heap[r]? = some (.cells #[.string ⟨#[]⟩, .int .i64 0, .int .i64 0, .int .i64 0, .int .i64 0, .int .i64 0, .slice none 0 0, .slice none 0 0] 78 (0, 0))) := (hKp.block r (by have := SB.out; omega) NG.out.1 (by omega)).trans XB.out
              have GF : Hid (w.grownBy wr (some g)) := Kp.gb GB.out hKp (Nat.le_succ_of_le RG.out)
              have QF0 : Hid (RwF 10 ((fun S w => Is opC) (Fresh (r + 2) wr.heap.size) wr) (Fresh (r + 2) wr.heap.size) wr y7 (rdKL ro N7.toNat s7)) := rw_kp (P := (fun S w => Is opC)) (keptI _) QA.out hKp (by have := GR.out; omega) (by omega)
              have QF1 : Hid (RwF 3 ((fun S w => Is lpC) (Fresh (r + 2) wr.heap.size) wr) (Fresh (r + 2) wr.heap.size) wr y8 (rdKL rl N8.toNat s8)) := RwF.subK (P := (fun S w => Is lpC)) (keptI _) (up_sub' SB.out (Nat.le_refl _)) hQ
              clear hY hQ hR hKp RB YB XB GB SB
              have b0 : wr.cell? ⟨r + 1, 0, none⟩ = some (.string v1) := by simp [World.cell?, YF.out]
              have b1 : wr.cell? ⟨r + 1, 1, none⟩ = some (.int .i64 v2) := by simp [World.cell?, YF.out]
              have b2 : wr.cell? ⟨r + 1, 2, none⟩ = some (.int .i64 v3) := by simp [World.cell?, YF.out]
              have b3 : wr.cell? ⟨r + 1, 3, none⟩ = some (.int .i64 v4) := by simp [World.cell?, YF.out]
              have b4 : wr.cell? ⟨r + 1, 4, none⟩ = some (.int .i64 v5) := by simp [World.cell?, YF.out]
              have b5 : wr.cell? ⟨r + 1, 5, none⟩ = some (.int .i64 v6) := by simp [World.cell?, YF.out]
              have b6 : wr.cell? ⟨r + 1, 6, none⟩ = some (.slice y7 (rdKL ro N7.toNat s7).length c7) := by simp [World.cell?, YF.out]
              have b7 : wr.cell? ⟨r + 1, 7, none⟩ = some (.slice y8 (rdKL rl N8.toNat s8).length c8) := by simp [World.cell?, YF.out]
              go_upto_region 20 with fail
              rename_i hKK
              refine wp_region_list ?_
              refine wpList_load_row (by rfl) 78 (.tmp 3) (by rfl) (r + 1) (by rfl) 78 #[.string v1, .int .i64 v2, .int .i64 v3, .int .i64 v4, .int .i64 v5, .int .i64 v6, .slice y7 (rdKL ro N7.toNat s7).length c7, .slice y8 (rdKL rl N8.toNat s8).length c8] (0, 0) _ YF.out Tryz.underlying78 rfl (show (Tryz.prog.info? 78).map (·.size) = some 8 by kernel_rfl) ?_
              refine wpList_store_row (by rfl) 78 (.tmp 2) (.tmp 76) (by rfl) r #[.string v1, .int .i64 v2, .int .i64 v3, .int .i64 v4, .int .i64 v5, .int .i64 v6, .slice y7 (rdKL ro N7.toNat s7).length c7, .slice y8 (rdKL rl N8.toNat s8).length c8] (by rfl) (by rfl) 78 _ XF.out (show (Tryz.prog.info? 78).map (·.size) = some 8 by kernel_rfl) (by rfl) (by kernel_rfl) ?_
              refine hKK _ _ (wp_ret ?_)
              have hz := setRow_heap wr r _ #[.string v1, .int .i64 v2, .int .i64 v3, .int .i64 v4, .int .i64 v5, .int .i64 v6, .slice y7 (rdKL ro N7.toNat s7).length c7, .slice y8 (rdKL rl N8.toNat s8).length c8] _ _ XF.out
              refine bodyPost_ret (v := .agg #[.string v1, .int .i64 v2, .int .i64 v3, .int .i64 v4, .int .i64 v5, .int .i64 v6, .slice y7 (rdKL ro N7.toNat s7).length c7, .slice y8 (rdKL rl N8.toNat s8).length c8]) (results_cell_row Tryz.results31 _ _ r _ _ (0, 0) _ (by first | rfl | simp [Act.put]) hz Tryz.underlying78 rfl (show (Tryz.prog.info? 78).map (·.size) = some 8 by kernel_rfl)) rfl ?_
              first | exact ⟨⟨y7, c7, y8, c8, rfl, rw_row' (P := (fun S w => Is opC)) (keptI _) QF0.out RG.out, rw_row' (P := (fun S w => Is lpC)) (keptI _) QF1.out RG.out⟩, RF.out.row NG.out.1 NK.out.1 _, gb_row GF.out RG.out _⟩ | exact ⟨⟨y7, c7, y8, ⟨c8, rfl⟩, rw_row' (P := (fun S w => Is opC)) (keptI _) QF0.out RG.out, rw_row' (P := (fun S w => Is lpC)) (keptI _) QF1.out RG.out⟩, RF.out.row NG.out.1 NK.out.1 _, gb_row GF.out RG.out _⟩
end Go.Proofs.YtahgnmbkobiclaaGreat
