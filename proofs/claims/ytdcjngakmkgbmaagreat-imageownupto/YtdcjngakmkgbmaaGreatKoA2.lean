/- image: rows of an image that are stored into; no statement of the seat is proved here. -/
import Derived.Test.YtdcjngakmkgbmaaGreatKoA1
import Derived.Deep.RegionHeld3
import Derived.Deep.DeepCutAuto
import Derived.ArgAppend
import Derived.Deep.RegionHeld
namespace Go.Proofs.YtdcjngakmkgbmaaGreat
set_option linter.unusedVariables false
open Go.RowKit
def rdLp (bs : List Nat) (s : RS) : LpR × RS := (⟨(rdN bs s).1, (rdN bs (rdN bs s).2).1, (rdN bs (rdN bs (rdN bs s).2).2).1⟩, (rdN bs (rdN bs (rdN bs s).2).2).2)
theorem blk_in' {w : World} {k : Nat} {x : Obj} (h : w.heap[k]? = some x) : k < w.heap.size := by
  rcases Nat.lt_or_ge k w.heap.size with q | q
  · exact q
  · rw [Array.getElem?_eq_none q] at h; cases h
theorem Rd.lt {g kb o c : Nat} {bs : List Nat} {s : RS} {w : World} (h : Rd g kb o c bs s w) : g < w.heap.size := by
  have := h.at_
  unfold RdAt at this
  exact blk_in' this
theorem gb_alloc (w : World) (b : Obj) (r : Option Nat) : w.grownBy (w.alloc b) r := ⟨rfl, rfl, rfl, by rw [← World.alloc_eq]; simp, fun i hi _ => by rw [← World.alloc_eq]; show (w.heap.push b)[i]? = _; rw [Array.getElem?_push, if_neg (Nat.ne_of_lt hi)]⟩
theorem Rd.al {g kb o c : Nat} {bs : List Nat} {s : RS} {w : World} (h : Rd g kb o c bs s w) (b : Obj) : Rd g kb o c bs s (w.alloc b) := h.other (gb_alloc _ _ _) h.lt
theorem gb_row {w V : World} {g r : Nat} (h : w.grownBy V (some g)) (hr : w.heap.size ≤ r) (vs : Array Value) : w.grownBy (V.setRow r vs) (some g) :=
  ⟨h.os, h.tape, h.output, by simpa [World.setRow] using h.size, fun k hk hn => (setRow_other _ _ _ _ (by omega)).trans (h.block k hk hn)⟩
theorem Rd.row {g kb o c r : Nat} {bs : List Nat} {s : RS} {V : World} (h : Rd g kb o c bs s V) (hr : r ≠ g) (hk : r ≠ kb) (vs : Array Value) : Rd g kb o c bs s (V.setRow r vs) :=
  ⟨by have := h.at_; unfold RdAt at *; rw [setRow_other _ _ _ _ (fun q => hr q.symm)]; exact this, fun i x hi => by
    have := h.by_ i x hi
    unfold World.cell? at *
    rw [setRow_other _ _ _ _ (fun q => hk q.symm)]
    exact this, h.le, h.n4, h.nc, h.ne, by simpa [World.setRow] using h.kl, h.b8⟩
set_option maxRecDepth 20000 in
set_option maxHeartbeats 8000000 in
theorem loopG (g kb o c : Nat) (bs : List Nat) (s s1 s2 s3 : RS) (v1 : Int) (v2 : Int) (v3 : Int) 
    (C1 : ∀ W, Rd g kb o c bs s W → Calls Tryz.prog 103 #[.pointer (some ⟨g, 0, none⟩)] W fun e w' => e = .returned (.int .i64 v1) ∧ Rd g kb o c bs s1 w' ∧ W.grownBy w' (some g))
    (C2 : ∀ W, Rd g kb o c bs s1 W → Calls Tryz.prog 103 #[.pointer (some ⟨g, 0, none⟩)] W fun e w' => e = .returned (.int .i64 v2) ∧ Rd g kb o c bs s2 w' ∧ W.grownBy w' (some g))
    (C3 : ∀ W, Rd g kb o c bs s2 W → Calls Tryz.prog 103 #[.pointer (some ⟨g, 0, none⟩)] W fun e w' => e = .returned (.int .i64 v3) ∧ Rd g kb o c bs s3 w' ∧ W.grownBy w' (some g))
    (w : World) (h : Rd g kb o c bs s w) :
    Calls Tryz.prog 108 #[.pointer (some ⟨g, 0, none⟩)] w fun e w' => e = .returned (.agg #[.int .i64 v1, .int .i64 v2, .int .i64 v3]) ∧ Rd g kb o c bs s3 w' ∧ w.grownBy w' (some g) := by
  obtain ⟨r, hr⟩ : ∃ r, w.heap.size = r := ⟨_, rfl⟩
  obtain ⟨AW, eW⟩ : ∃ AW, AW = w.alloc (.cells #[.int .i64 0, .int .i64 0, .int .i64 0] 48 (0, 0)) := ⟨_, rfl⟩
  have R0 : Hid (Rd g kb o c bs s AW) := by rw [eW]; exact h.al _
  have G0 : Hid (w.grownBy AW (some g)) := by rw [eW]; exact gb_alloc _ _ _
  have X0 : Hid (AW.heap[r]? = some (.cells #[.int .i64 0, .int .i64 0, .int .i64 0] 48 (0, 0))) := by rw [eW, ← hr]; exact heap_alloc_last _ _
  have NG : Hid (r ≠ g) := by have := h.lt; show r ≠ g; omega
  have RG : Hid (w.heap.size ≤ r) := by show _ ≤ _; omega
  have NK : Hid (r ≠ kb) := by have := h.kl; show r ≠ kb; omega
  have D1 : Hid _ := C1
  have D2 : Hid _ := C2
  have D3 : Hid _ := C3
  clear h C1 C2 C3
  go_enter Tryz.func108, Tryz.ntmps108
  go_upto_region 1 with fail
  rw [← eW]
  try rw [hr]
  clear eW hr
  go_wp2_with (go_at_call 103; refine (D1.out _ R0.out).mono ?_)
  first | (rintro e w1 ⟨he, h1, g1⟩; have he' := he) | (rintro e w1 he h1 g1)
  subst he
  have R1 : Hid (Rd g kb o c bs s1 w1) := h1
  have G1 : Hid (w.grownBy w1 (some g)) := gb_trans G0.out g1
  have X1 : Hid (w1.heap[r]? = some (.cells #[.int .i64 0, .int .i64 0, .int .i64 0] 48 (0, 0))) := (g1.block r (blk_in' X0.out) (by have := NG.out; intro q; cases q; exact this rfl)).trans X0.out
  clear h1 g1 R0 G0 X0 D1
  go_wp2_with (go_at_call 103; refine (D2.out _ R1.out).mono ?_)
  first | (rintro e w2 ⟨he, h1, g1⟩; have he' := he) | (rintro e w2 he h1 g1)
  subst he
  have R2 : Hid (Rd g kb o c bs s2 w2) := h1
  have G2 : Hid (w.grownBy w2 (some g)) := gb_trans G1.out g1
  have X2 : Hid (w2.heap[r]? = some (.cells #[.int .i64 0, .int .i64 0, .int .i64 0] 48 (0, 0))) := (g1.block r (blk_in' X1.out) (by have := NG.out; intro q; cases q; exact this rfl)).trans X1.out
  clear h1 g1 R1 G1 X1 D2
  go_wp2_with (go_at_call 103; refine (D3.out _ R2.out).mono ?_)
  first | (rintro e w3 ⟨he, h1, g1⟩; have he' := he) | (rintro e w3 he h1 g1)
  subst he
  have R3 : Hid (Rd g kb o c bs s3 w3) := h1
  have G3 : Hid (w.grownBy w3 (some g)) := gb_trans G2.out g1
  have X3 : Hid (w3.heap[r]? = some (.cells #[.int .i64 0, .int .i64 0, .int .i64 0] 48 (0, 0))) := (g1.block r (blk_in' X2.out) (by have := NG.out; intro q; cases q; exact this rfl)).trans X2.out
  clear h1 g1 R2 G2 X2 D3
  go_wp2_with (refine wpList_store_row rfl 48 _ _ rfl r _ rfl rfl _ _ X3.out (show (Tryz.prog.info? 48).map (·.size) = some 3 by kernel_rfl) rfl (by kernel_rfl) ?_)
  have hz := setRow_heap w3 r _ (#[.int .i64 v1, .int .i64 v2, .int .i64 v3]) _ _ X3.out
  refine bodyPost_ret (v := .agg #[.int .i64 v1, .int .i64 v2, .int .i64 v3]) (results_cell_row Tryz.results108 _ _ r _ _ (0, 0) _ (by first | rfl | simp [Act.put]) hz Tryz.underlying48 rfl (show (Tryz.prog.info? 48).map (·.size) = some 3 by kernel_rfl)) rfl ?_
  exact ⟨rfl, R3.out.row NG.out NK.out _, gb_row G3.out RG.out _⟩
set_option maxRecDepth 20000 in
set_option maxHeartbeats 8000000 in
theorem valueG (g kb o c : Nat) (bs : List Nat) (s s1 s2 s3 : RS) (v1 : Nat) (v2 : Int) (v3 : ByteArray) (u : Int) (hu : IntKind.u64.wrap v2 = u)
    (C1 : ∀ W, Rd g kb o c bs s W → Calls Tryz.prog 101 #[.pointer (some ⟨g, 0, none⟩)] W fun e w' => e = .returned (.int .u8 v1) ∧ Rd g kb o c bs s1 w' ∧ W.grownBy w' (some g))
    (C2 : ∀ W, Rd g kb o c bs s1 W → Calls Tryz.prog 103 #[.pointer (some ⟨g, 0, none⟩)] W fun e w' => e = .returned (.int .i64 v2) ∧ Rd g kb o c bs s2 w' ∧ W.grownBy w' (some g))
    (C3 : ∀ W, Rd g kb o c bs s2 W → Calls Tryz.prog 67 #[.pointer (some ⟨g, 0, none⟩)] W fun e w' => e = .returned (.string v3) ∧ Rd g kb o c bs s3 w' ∧ W.grownBy w' (some g))
    (w : World) (h : Rd g kb o c bs s w) :
    Calls Tryz.prog 104 #[.pointer (some ⟨g, 0, none⟩)] w fun e w' => e = .returned (.agg #[.int .u8 v1, .int .u64 u, .string v3]) ∧ Rd g kb o c bs s3 w' ∧ w.grownBy w' (some g) := by
  obtain ⟨r, hr⟩ : ∃ r, w.heap.size = r := ⟨_, rfl⟩
  obtain ⟨AW, eW⟩ : ∃ AW, AW = w.alloc (.cells #[.int .u8 0, .int .u64 0, .string ⟨#[]⟩] 38 (0, 0)) := ⟨_, rfl⟩
  have R0 : Hid (Rd g kb o c bs s AW) := by rw [eW]; exact h.al _
  have G0 : Hid (w.grownBy AW (some g)) := by rw [eW]; exact gb_alloc _ _ _
  have X0 : Hid (AW.heap[r]? = some (.cells #[.int .u8 0, .int .u64 0, .string ⟨#[]⟩] 38 (0, 0))) := by rw [eW, ← hr]; exact heap_alloc_last _ _
  have NG : Hid (r ≠ g) := by have := h.lt; show r ≠ g; omega
  have RG : Hid (w.heap.size ≤ r) := by show _ ≤ _; omega
  have NK : Hid (r ≠ kb) := by have := h.kl; show r ≠ kb; omega
  have D1 : Hid _ := C1
  have D2 : Hid _ := C2
  have D3 : Hid _ := C3
  clear h C1 C2 C3
  go_enter Tryz.func104, Tryz.ntmps104
  go_upto_region 1 with fail
  rw [← eW]
  try rw [hr]
  clear eW hr
  go_wp2_with (go_at_call 101; refine (D1.out _ R0.out).mono ?_)
  first | (rintro e w1 ⟨he, h1, g1⟩; have he' := he) | (rintro e w1 he h1 g1)
  subst he
  have R1 : Hid (Rd g kb o c bs s1 w1) := h1
  have G1 : Hid (w.grownBy w1 (some g)) := gb_trans G0.out g1
  have X1 : Hid (w1.heap[r]? = some (.cells #[.int .u8 0, .int .u64 0, .string ⟨#[]⟩] 38 (0, 0))) := (g1.block r (blk_in' X0.out) (by have := NG.out; intro q; cases q; exact this rfl)).trans X0.out
  clear h1 g1 R0 G0 X0 D1
  go_wp2_with (go_at_call 103; refine (D2.out _ R1.out).mono ?_)
  first | (rintro e w2 ⟨he, h1, g1⟩; have he' := he) | (rintro e w2 he h1 g1)
  subst he
  have R2 : Hid (Rd g kb o c bs s2 w2) := h1
  have G2 : Hid (w.grownBy w2 (some g)) := gb_trans G1.out g1
  have X2 : Hid (w2.heap[r]? = some (.cells #[.int .u8 0, .int .u64 0, .string ⟨#[]⟩] 38 (0, 0))) := (g1.block r (blk_in' X1.out) (by have := NG.out; intro q; cases q; exact this rfl)).trans X1.out
  clear h1 g1 R1 G1 X1 D2
  go_wp2_with (go_at_call 67; refine (D3.out _ R2.out).mono ?_)
  first | (rintro e w3 ⟨he, h1, g1⟩; have he' := he) | (rintro e w3 he h1 g1)
  subst he
  have R3 : Hid (Rd g kb o c bs s3 w3) := h1
  have G3 : Hid (w.grownBy w3 (some g)) := gb_trans G2.out g1
  have X3 : Hid (w3.heap[r]? = some (.cells #[.int .u8 0, .int .u64 0, .string ⟨#[]⟩] 38 (0, 0))) := (g1.block r (blk_in' X2.out) (by have := NG.out; intro q; cases q; exact this rfl)).trans X2.out
  clear h1 g1 R2 G2 X2 D3
  go_wp2_with (refine wpList_store_row rfl 38 _ _ rfl r _ rfl rfl _ _ X3.out (show (Tryz.prog.info? 38).map (·.size) = some 3 by kernel_rfl) rfl (by kernel_rfl) ?_)
  have hz := setRow_heap w3 r _ (#[.int .u8 v1, .int .u64 u, .string v3]) _ _ X3.out
  refine bodyPost_ret (v := .agg #[.int .u8 v1, .int .u64 u, .string v3]) (results_cell_row Tryz.results104 _ _ r _ _ (0, 0) _ (by first | rfl | simp [Act.put]) hz Tryz.underlying38 rfl (show (Tryz.prog.info? 38).map (·.size) = some 3 by kernel_rfl)) rfl ?_
  exact ⟨rfl, R3.out.row NG.out NK.out _, gb_row G3.out RG.out _⟩
set_option maxRecDepth 20000 in
set_option maxHeartbeats 8000000 in
theorem opG (g kb o c : Nat) (bs : List Nat) (s s1 s2 s3 s4 s5 s6 s7 s8 : RS) (v1 : Int) (v2 : Int) (v3 : Int) (v4 : Int) (v5 : Int) (v6 : Int) (v7 : Int) (v8 : Nat × Int × ByteArray) 
    (C1 : ∀ W, Rd g kb o c bs s W → Calls Tryz.prog 103 #[.pointer (some ⟨g, 0, none⟩)] W fun e w' => e = .returned (.int .i64 v1) ∧ Rd g kb o c bs s1 w' ∧ W.grownBy w' (some g))
    (C2 : ∀ W, Rd g kb o c bs s1 W → Calls Tryz.prog 103 #[.pointer (some ⟨g, 0, none⟩)] W fun e w' => e = .returned (.int .i64 v2) ∧ Rd g kb o c bs s2 w' ∧ W.grownBy w' (some g))
    (C3 : ∀ W, Rd g kb o c bs s2 W → Calls Tryz.prog 103 #[.pointer (some ⟨g, 0, none⟩)] W fun e w' => e = .returned (.int .i64 v3) ∧ Rd g kb o c bs s3 w' ∧ W.grownBy w' (some g))
    (C4 : ∀ W, Rd g kb o c bs s3 W → Calls Tryz.prog 103 #[.pointer (some ⟨g, 0, none⟩)] W fun e w' => e = .returned (.int .i64 v4) ∧ Rd g kb o c bs s4 w' ∧ W.grownBy w' (some g))
    (C5 : ∀ W, Rd g kb o c bs s4 W → Calls Tryz.prog 103 #[.pointer (some ⟨g, 0, none⟩)] W fun e w' => e = .returned (.int .i64 v5) ∧ Rd g kb o c bs s5 w' ∧ W.grownBy w' (some g))
    (C6 : ∀ W, Rd g kb o c bs s5 W → Calls Tryz.prog 103 #[.pointer (some ⟨g, 0, none⟩)] W fun e w' => e = .returned (.int .i64 v6) ∧ Rd g kb o c bs s6 w' ∧ W.grownBy w' (some g))
    (C7 : ∀ W, Rd g kb o c bs s6 W → Calls Tryz.prog 103 #[.pointer (some ⟨g, 0, none⟩)] W fun e w' => e = .returned (.int .i64 v7) ∧ Rd g kb o c bs s7 w' ∧ W.grownBy w' (some g))
    (C8 : ∀ W, Rd g kb o c bs s7 W → Calls Tryz.prog 104 #[.pointer (some ⟨g, 0, none⟩)] W fun e w' => e = .returned (.agg #[.int .u8 v8.1, .int .u64 v8.2.1, .string v8.2.2]) ∧ Rd g kb o c bs s8 w' ∧ W.grownBy w' (some g))
    (w : World) (h : Rd g kb o c bs s w) :
    Calls Tryz.prog 106 #[.pointer (some ⟨g, 0, none⟩)] w fun e w' => e = .returned (.agg #[.int .i64 v1, .int .i64 v2, .int .i64 v3, .int .i64 v4, .int .i64 v5, .int .i64 v6, .int .i64 v7, .int .u8 v8.1, .int .u64 v8.2.1, .string v8.2.2]) ∧ Rd g kb o c bs s8 w' ∧ w.grownBy w' (some g) := by
  obtain ⟨r, hr⟩ : ∃ r, w.heap.size = r := ⟨_, rfl⟩
  obtain ⟨AW, eW⟩ : ∃ AW, AW = w.alloc (.cells #[.int .i64 0, .int .i64 0, .int .i64 0, .int .i64 0, .int .i64 0, .int .i64 0, .int .i64 0, .int .u8 0, .int .u64 0, .string ⟨#[]⟩] 46 (0, 0)) := ⟨_, rfl⟩
  have R0 : Hid (Rd g kb o c bs s AW) := by rw [eW]; exact h.al _
  have G0 : Hid (w.grownBy AW (some g)) := by rw [eW]; exact gb_alloc _ _ _
  have X0 : Hid (AW.heap[r]? = some (.cells #[.int .i64 0, .int .i64 0, .int .i64 0, .int .i64 0, .int .i64 0, .int .i64 0, .int .i64 0, .int .u8 0, .int .u64 0, .string ⟨#[]⟩] 46 (0, 0))) := by rw [eW, ← hr]; exact heap_alloc_last _ _
  have NG : Hid (r ≠ g) := by have := h.lt; show r ≠ g; omega
  have RG : Hid (w.heap.size ≤ r) := by show _ ≤ _; omega
  have NK : Hid (r ≠ kb) := by have := h.kl; show r ≠ kb; omega
  have D1 : Hid _ := C1
  have D2 : Hid _ := C2
  have D3 : Hid _ := C3
  have D4 : Hid _ := C4
  have D5 : Hid _ := C5
  have D6 : Hid _ := C6
  have D7 : Hid _ := C7
  have D8 : Hid _ := C8
  clear h C1 C2 C3 C4 C5 C6 C7 C8
  go_enter Tryz.func106, Tryz.ntmps106
  go_upto_region 1 with fail
  rw [← eW]
  try rw [hr]
  clear eW hr
  go_wp2_with (go_at_call 103; refine (D1.out _ R0.out).mono ?_)
  first | (rintro e w1 ⟨he, h1, g1⟩; have he' := he) | (rintro e w1 he h1 g1)
  subst he
  have R1 : Hid (Rd g kb o c bs s1 w1) := h1
  have G1 : Hid (w.grownBy w1 (some g)) := gb_trans G0.out g1
  have X1 : Hid (w1.heap[r]? = some (.cells #[.int .i64 0, .int .i64 0, .int .i64 0, .int .i64 0, .int .i64 0, .int .i64 0, .int .i64 0, .int .u8 0, .int .u64 0, .string ⟨#[]⟩] 46 (0, 0))) := (g1.block r (blk_in' X0.out) (by have := NG.out; intro q; cases q; exact this rfl)).trans X0.out
  clear h1 g1 R0 G0 X0 D1
  go_wp2_with (go_at_call 103; refine (D2.out _ R1.out).mono ?_)
  first | (rintro e w2 ⟨he, h1, g1⟩; have he' := he) | (rintro e w2 he h1 g1)
  subst he
  have R2 : Hid (Rd g kb o c bs s2 w2) := h1
  have G2 : Hid (w.grownBy w2 (some g)) := gb_trans G1.out g1
  have X2 : Hid (w2.heap[r]? = some (.cells #[.int .i64 0, .int .i64 0, .int .i64 0, .int .i64 0, .int .i64 0, .int .i64 0, .int .i64 0, .int .u8 0, .int .u64 0, .string ⟨#[]⟩] 46 (0, 0))) := (g1.block r (blk_in' X1.out) (by have := NG.out; intro q; cases q; exact this rfl)).trans X1.out
  clear h1 g1 R1 G1 X1 D2
  go_wp2_with (go_at_call 103; refine (D3.out _ R2.out).mono ?_)
  first | (rintro e w3 ⟨he, h1, g1⟩; have he' := he) | (rintro e w3 he h1 g1)
  subst he
  have R3 : Hid (Rd g kb o c bs s3 w3) := h1
  have G3 : Hid (w.grownBy w3 (some g)) := gb_trans G2.out g1
  have X3 : Hid (w3.heap[r]? = some (.cells #[.int .i64 0, .int .i64 0, .int .i64 0, .int .i64 0, .int .i64 0, .int .i64 0, .int .i64 0, .int .u8 0, .int .u64 0, .string ⟨#[]⟩] 46 (0, 0))) := (g1.block r (blk_in' X2.out) (by have := NG.out; intro q; cases q; exact this rfl)).trans X2.out
  clear h1 g1 R2 G2 X2 D3
  go_wp2_with (go_at_call 103; refine (D4.out _ R3.out).mono ?_)
  first | (rintro e w4 ⟨he, h1, g1⟩; have he' := he) | (rintro e w4 he h1 g1)
  subst he
  have R4 : Hid (Rd g kb o c bs s4 w4) := h1
  have G4 : Hid (w.grownBy w4 (some g)) := gb_trans G3.out g1
  have X4 : Hid (w4.heap[r]? = some (.cells #[.int .i64 0, .int .i64 0, .int .i64 0, .int .i64 0, .int .i64 0, .int .i64 0, .int .i64 0, .int .u8 0, .int .u64 0, .string ⟨#[]⟩] 46 (0, 0))) := (g1.block r (blk_in' X3.out) (by have := NG.out; intro q; cases q; exact this rfl)).trans X3.out
  clear h1 g1 R3 G3 X3 D4
  go_wp2_with (go_at_call 103; refine (D5.out _ R4.out).mono ?_)
  first | (rintro e w5 ⟨he, h1, g1⟩; have he' := he) | (rintro e w5 he h1 g1)
  subst he
  have R5 : Hid (Rd g kb o c bs s5 w5) := h1
  have G5 : Hid (w.grownBy w5 (some g)) := gb_trans G4.out g1
  have X5 : Hid (w5.heap[r]? = some (.cells #[.int .i64 0, .int .i64 0, .int .i64 0, .int .i64 0, .int .i64 0, .int .i64 0, .int .i64 0, .int .u8 0, .int .u64 0, .string ⟨#[]⟩] 46 (0, 0))) := (g1.block r (blk_in' X4.out) (by have := NG.out; intro q; cases q; exact this rfl)).trans X4.out
  clear h1 g1 R4 G4 X4 D5
  go_wp2_with (go_at_call 103; refine (D6.out _ R5.out).mono ?_)
  first | (rintro e w6 ⟨he, h1, g1⟩; have he' := he) | (rintro e w6 he h1 g1)
  subst he
  have R6 : Hid (Rd g kb o c bs s6 w6) := h1
  have G6 : Hid (w.grownBy w6 (some g)) := gb_trans G5.out g1
  have X6 : Hid (w6.heap[r]? = some (.cells #[.int .i64 0, .int .i64 0, .int .i64 0, .int .i64 0, .int .i64 0, .int .i64 0, .int .i64 0, .int .u8 0, .int .u64 0, .string ⟨#[]⟩] 46 (0, 0))) := (g1.block r (blk_in' X5.out) (by have := NG.out; intro q; cases q; exact this rfl)).trans X5.out
  clear h1 g1 R5 G5 X5 D6
  go_wp2_with (go_at_call 103; refine (D7.out _ R6.out).mono ?_)
  first | (rintro e w7 ⟨he, h1, g1⟩; have he' := he) | (rintro e w7 he h1 g1)
  subst he
  have R7 : Hid (Rd g kb o c bs s7 w7) := h1
  have G7 : Hid (w.grownBy w7 (some g)) := gb_trans G6.out g1
  have X7 : Hid (w7.heap[r]? = some (.cells #[.int .i64 0, .int .i64 0, .int .i64 0, .int .i64 0, .int .i64 0, .int .i64 0, .int .i64 0, .int .u8 0, .int .u64 0, .string ⟨#[]⟩] 46 (0, 0))) := (g1.block r (blk_in' X6.out) (by have := NG.out; intro q; cases q; exact this rfl)).trans X6.out
  clear h1 g1 R6 G6 X6 D7
  go_wp2_with (go_at_call 104; refine (D8.out _ R7.out).mono ?_)
  first | (rintro e w8 ⟨he, h1, g1⟩; have he' := he) | (rintro e w8 he h1 g1)
  subst he
  have R8 : Hid (Rd g kb o c bs s8 w8) := h1
  have G8 : Hid (w.grownBy w8 (some g)) := gb_trans G7.out g1
  have X8 : Hid (w8.heap[r]? = some (.cells #[.int .i64 0, .int .i64 0, .int .i64 0, .int .i64 0, .int .i64 0, .int .i64 0, .int .i64 0, .int .u8 0, .int .u64 0, .string ⟨#[]⟩] 46 (0, 0))) := (g1.block r (blk_in' X7.out) (by have := NG.out; intro q; cases q; exact this rfl)).trans X7.out
  clear h1 g1 R7 G7 X7 D8
  go_wp2_with (refine wpList_store_row rfl 46 _ _ rfl r _ rfl rfl _ _ X8.out (show (Tryz.prog.info? 46).map (·.size) = some 10 by kernel_rfl) rfl (by kernel_rfl) ?_)
  have hz := setRow_heap w8 r _ (#[.int .i64 v1, .int .i64 v2, .int .i64 v3, .int .i64 v4, .int .i64 v5, .int .i64 v6, .int .i64 v7, .int .u8 v8.1, .int .u64 v8.2.1, .string v8.2.2]) _ _ X8.out
  refine bodyPost_ret (v := .agg #[.int .i64 v1, .int .i64 v2, .int .i64 v3, .int .i64 v4, .int .i64 v5, .int .i64 v6, .int .i64 v7, .int .u8 v8.1, .int .u64 v8.2.1, .string v8.2.2]) (results_cell_row Tryz.results106 _ _ r _ _ (0, 0) _ (by first | rfl | simp [Act.put]) hz Tryz.underlying46 rfl (show (Tryz.prog.info? 46).map (·.size) = some 10 by kernel_rfl)) rfl ?_
  exact ⟨rfl, R8.out.row NG.out NK.out _, gb_row G8.out RG.out _⟩
set_option maxRecDepth 20000 in
set_option maxHeartbeats 8000000 in
theorem cellG (g kb o c : Nat) (bs : List Nat) (s s1 s2 s3 s4 s5 s6 s7 s8 s9 : RS) (v1 : Nat) (v2 : Bool) (v3 : Int) (v4 : Int) (v5 : Int) (v6 : Nat × Int × ByteArray) (v7 : Bool) (v8 : Nat) (v9 : ByteArray) (h8 : wrap64 (v8 : Int) = (v8 : Int))
    (C1 : ∀ W, Rd g kb o c bs s W → Calls Tryz.prog 101 #[.pointer (some ⟨g, 0, none⟩)] W fun e w' => e = .returned (.int .u8 v1) ∧ Rd g kb o c bs s1 w' ∧ W.grownBy w' (some g))
    (C2 : ∀ W, Rd g kb o c bs s1 W → Calls Tryz.prog 102 #[.pointer (some ⟨g, 0, none⟩)] W fun e w' => e = .returned (.bool v2) ∧ Rd g kb o c bs s2 w' ∧ W.grownBy w' (some g))
    (C3 : ∀ W, Rd g kb o c bs s2 W → Calls Tryz.prog 103 #[.pointer (some ⟨g, 0, none⟩)] W fun e w' => e = .returned (.int .i64 v3) ∧ Rd g kb o c bs s3 w' ∧ W.grownBy w' (some g))
    (C4 : ∀ W, Rd g kb o c bs s3 W → Calls Tryz.prog 103 #[.pointer (some ⟨g, 0, none⟩)] W fun e w' => e = .returned (.int .i64 v4) ∧ Rd g kb o c bs s4 w' ∧ W.grownBy w' (some g))
    (C5 : ∀ W, Rd g kb o c bs s4 W → Calls Tryz.prog 103 #[.pointer (some ⟨g, 0, none⟩)] W fun e w' => e = .returned (.int .i64 v5) ∧ Rd g kb o c bs s5 w' ∧ W.grownBy w' (some g))
    (C6 : ∀ W, Rd g kb o c bs s5 W → Calls Tryz.prog 104 #[.pointer (some ⟨g, 0, none⟩)] W fun e w' => e = .returned (.agg #[.int .u8 v6.1, .int .u64 v6.2.1, .string v6.2.2]) ∧ Rd g kb o c bs s6 w' ∧ W.grownBy w' (some g))
    (C7 : ∀ W, Rd g kb o c bs s6 W → Calls Tryz.prog 102 #[.pointer (some ⟨g, 0, none⟩)] W fun e w' => e = .returned (.bool v7) ∧ Rd g kb o c bs s7 w' ∧ W.grownBy w' (some g))
    (C8 : ∀ W, Rd g kb o c bs s7 W → Calls Tryz.prog 101 #[.pointer (some ⟨g, 0, none⟩)] W fun e w' => e = .returned (.int .u8 v8) ∧ Rd g kb o c bs s8 w' ∧ W.grownBy w' (some g))
    (C9 : ∀ W, Rd g kb o c bs s8 W → Calls Tryz.prog 67 #[.pointer (some ⟨g, 0, none⟩)] W fun e w' => e = .returned (.string v9) ∧ Rd g kb o c bs s9 w' ∧ W.grownBy w' (some g))
    (w : World) (h : Rd g kb o c bs s w) :
    Calls Tryz.prog 69 #[.pointer (some ⟨g, 0, none⟩)] w fun e w' => e = .returned (.agg #[.int .u8 v1, .bool v2, .int .i64 v3, .int .i64 v4, .int .i64 v5, .int .u8 v6.1, .int .u64 v6.2.1, .string v6.2.2, .bool v7, .int .i64 v8, .string v9]) ∧ Rd g kb o c bs s9 w' ∧ w.grownBy w' (some g) := by
  obtain ⟨r, hr⟩ : ∃ r, w.heap.size = r := ⟨_, rfl⟩
  obtain ⟨AW, eW⟩ : ∃ AW, AW = w.alloc (.cells #[.int .u8 0, .bool false, .int .i64 0, .int .i64 0, .int .i64 0, .int .u8 0, .int .u64 0, .string ⟨#[]⟩, .bool false, .int .i64 0, .string ⟨#[]⟩] 40 (0, 0)) := ⟨_, rfl⟩
  have R0 : Hid (Rd g kb o c bs s AW) := by rw [eW]; exact h.al _
  have G0 : Hid (w.grownBy AW (some g)) := by rw [eW]; exact gb_alloc _ _ _
  have X0 : Hid (AW.heap[r]? = some (.cells #[.int .u8 0, .bool false, .int .i64 0, .int .i64 0, .int .i64 0, .int .u8 0, .int .u64 0, .string ⟨#[]⟩, .bool false, .int .i64 0, .string ⟨#[]⟩] 40 (0, 0))) := by rw [eW, ← hr]; exact heap_alloc_last _ _
  have NG : Hid (r ≠ g) := by have := h.lt; show r ≠ g; omega
  have RG : Hid (w.heap.size ≤ r) := by show _ ≤ _; omega
  have NK : Hid (r ≠ kb) := by have := h.kl; show r ≠ kb; omega
  have D1 : Hid _ := C1
  have D2 : Hid _ := C2
  have D3 : Hid _ := C3
  have D4 : Hid _ := C4
  have D5 : Hid _ := C5
  have D6 : Hid _ := C6
  have D7 : Hid _ := C7
  have D8 : Hid _ := C8
  have D9 : Hid _ := C9
  clear h C1 C2 C3 C4 C5 C6 C7 C8 C9
  go_enter Tryz.func69, Tryz.ntmps69
  go_upto_region 1 with fail
  rw [← eW]
  try rw [hr]
  clear eW hr
  go_wp2_with (go_at_call 101; refine (D1.out _ R0.out).mono ?_)
  first | (rintro e w1 ⟨he, h1, g1⟩; have he' := he) | (rintro e w1 he h1 g1)
  subst he
  have R1 : Hid (Rd g kb o c bs s1 w1) := h1
  have G1 : Hid (w.grownBy w1 (some g)) := gb_trans G0.out g1
  have X1 : Hid (w1.heap[r]? = some (.cells #[.int .u8 0, .bool false, .int .i64 0, .int .i64 0, .int .i64 0, .int .u8 0, .int .u64 0, .string ⟨#[]⟩, .bool false, .int .i64 0, .string ⟨#[]⟩] 40 (0, 0))) := (g1.block r (blk_in' X0.out) (by have := NG.out; intro q; cases q; exact this rfl)).trans X0.out
  clear h1 g1 R0 G0 X0 D1
  go_wp2_with (go_at_call 102; refine (D2.out _ R1.out).mono ?_)
  first | (rintro e w2 ⟨he, h1, g1⟩; have he' := he) | (rintro e w2 he h1 g1)
  subst he
  have R2 : Hid (Rd g kb o c bs s2 w2) := h1
  have G2 : Hid (w.grownBy w2 (some g)) := gb_trans G1.out g1
  have X2 : Hid (w2.heap[r]? = some (.cells #[.int .u8 0, .bool false, .int .i64 0, .int .i64 0, .int .i64 0, .int .u8 0, .int .u64 0, .string ⟨#[]⟩, .bool false, .int .i64 0, .string ⟨#[]⟩] 40 (0, 0))) := (g1.block r (blk_in' X1.out) (by have := NG.out; intro q; cases q; exact this rfl)).trans X1.out
  clear h1 g1 R1 G1 X1 D2
  go_wp2_with (go_at_call 103; refine (D3.out _ R2.out).mono ?_)
  first | (rintro e w3 ⟨he, h1, g1⟩; have he' := he) | (rintro e w3 he h1 g1)
  subst he
  have R3 : Hid (Rd g kb o c bs s3 w3) := h1
  have G3 : Hid (w.grownBy w3 (some g)) := gb_trans G2.out g1
  have X3 : Hid (w3.heap[r]? = some (.cells #[.int .u8 0, .bool false, .int .i64 0, .int .i64 0, .int .i64 0, .int .u8 0, .int .u64 0, .string ⟨#[]⟩, .bool false, .int .i64 0, .string ⟨#[]⟩] 40 (0, 0))) := (g1.block r (blk_in' X2.out) (by have := NG.out; intro q; cases q; exact this rfl)).trans X2.out
  clear h1 g1 R2 G2 X2 D3
  go_wp2_with (go_at_call 103; refine (D4.out _ R3.out).mono ?_)
  first | (rintro e w4 ⟨he, h1, g1⟩; have he' := he) | (rintro e w4 he h1 g1)
  subst he
  have R4 : Hid (Rd g kb o c bs s4 w4) := h1
  have G4 : Hid (w.grownBy w4 (some g)) := gb_trans G3.out g1
  have X4 : Hid (w4.heap[r]? = some (.cells #[.int .u8 0, .bool false, .int .i64 0, .int .i64 0, .int .i64 0, .int .u8 0, .int .u64 0, .string ⟨#[]⟩, .bool false, .int .i64 0, .string ⟨#[]⟩] 40 (0, 0))) := (g1.block r (blk_in' X3.out) (by have := NG.out; intro q; cases q; exact this rfl)).trans X3.out
  clear h1 g1 R3 G3 X3 D4
  go_wp2_with (go_at_call 103; refine (D5.out _ R4.out).mono ?_)
  first | (rintro e w5 ⟨he, h1, g1⟩; have he' := he) | (rintro e w5 he h1 g1)
  subst he
  have R5 : Hid (Rd g kb o c bs s5 w5) := h1
  have G5 : Hid (w.grownBy w5 (some g)) := gb_trans G4.out g1
  have X5 : Hid (w5.heap[r]? = some (.cells #[.int .u8 0, .bool false, .int .i64 0, .int .i64 0, .int .i64 0, .int .u8 0, .int .u64 0, .string ⟨#[]⟩, .bool false, .int .i64 0, .string ⟨#[]⟩] 40 (0, 0))) := (g1.block r (blk_in' X4.out) (by have := NG.out; intro q; cases q; exact this rfl)).trans X4.out
  clear h1 g1 R4 G4 X4 D5
  go_wp2_with (go_at_call 104; refine (D6.out _ R5.out).mono ?_)
  first | (rintro e w6 ⟨he, h1, g1⟩; have he' := he) | (rintro e w6 he h1 g1)
  subst he
  have R6 : Hid (Rd g kb o c bs s6 w6) := h1
  have G6 : Hid (w.grownBy w6 (some g)) := gb_trans G5.out g1
  have X6 : Hid (w6.heap[r]? = some (.cells #[.int .u8 0, .bool false, .int .i64 0, .int .i64 0, .int .i64 0, .int .u8 0, .int .u64 0, .string ⟨#[]⟩, .bool false, .int .i64 0, .string ⟨#[]⟩] 40 (0, 0))) := (g1.block r (blk_in' X5.out) (by have := NG.out; intro q; cases q; exact this rfl)).trans X5.out
  clear h1 g1 R5 G5 X5 D6
  go_wp2_with (go_at_call 102; refine (D7.out _ R6.out).mono ?_)
  first | (rintro e w7 ⟨he, h1, g1⟩; have he' := he) | (rintro e w7 he h1 g1)
  subst he
  have R7 : Hid (Rd g kb o c bs s7 w7) := h1
  have G7 : Hid (w.grownBy w7 (some g)) := gb_trans G6.out g1
  have X7 : Hid (w7.heap[r]? = some (.cells #[.int .u8 0, .bool false, .int .i64 0, .int .i64 0, .int .i64 0, .int .u8 0, .int .u64 0, .string ⟨#[]⟩, .bool false, .int .i64 0, .string ⟨#[]⟩] 40 (0, 0))) := (g1.block r (blk_in' X6.out) (by have := NG.out; intro q; cases q; exact this rfl)).trans X6.out
  clear h1 g1 R6 G6 X6 D7
  go_wp2_with (go_at_call 101; refine (D8.out _ R7.out).mono ?_)
  first | (rintro e w8 ⟨he, h1, g1⟩; have he' := he) | (rintro e w8 he h1 g1)
  subst he
  have R8 : Hid (Rd g kb o c bs s8 w8) := h1
  have G8 : Hid (w.grownBy w8 (some g)) := gb_trans G7.out g1
  have X8 : Hid (w8.heap[r]? = some (.cells #[.int .u8 0, .bool false, .int .i64 0, .int .i64 0, .int .i64 0, .int .u8 0, .int .u64 0, .string ⟨#[]⟩, .bool false, .int .i64 0, .string ⟨#[]⟩] 40 (0, 0))) := (g1.block r (blk_in' X7.out) (by have := NG.out; intro q; cases q; exact this rfl)).trans X7.out
  clear h1 g1 R7 G7 X7 D8
  go_wp2_with (go_at_call 67; refine (D9.out _ R8.out).mono ?_)
  first | (rintro e w9 ⟨he, h1, g1⟩; have he' := he) | (rintro e w9 he h1 g1)
  subst he
  have R9 : Hid (Rd g kb o c bs s9 w9) := h1
  have G9 : Hid (w.grownBy w9 (some g)) := gb_trans G8.out g1
  have X9 : Hid (w9.heap[r]? = some (.cells #[.int .u8 0, .bool false, .int .i64 0, .int .i64 0, .int .i64 0, .int .u8 0, .int .u64 0, .string ⟨#[]⟩, .bool false, .int .i64 0, .string ⟨#[]⟩] 40 (0, 0))) := (g1.block r (blk_in' X8.out) (by have := NG.out; intro q; cases q; exact this rfl)).trans X8.out
  clear h1 g1 R8 G8 X8 D9
  go_wp2_with (refine wpList_store_row rfl 40 _ _ rfl r _ rfl rfl _ _ X9.out (show (Tryz.prog.info? 40).map (·.size) = some 11 by kernel_rfl) rfl (by kernel_rfl) ?_)
  have hz := setRow_heap w9 r _ (#[.int .u8 v1, .bool v2, .int .i64 v3, .int .i64 v4, .int .i64 v5, .int .u8 v6.1, .int .u64 v6.2.1, .string v6.2.2, .bool v7, .int .i64 v8, .string v9]) _ _ X9.out
  refine bodyPost_ret (v := .agg #[.int .u8 v1, .bool v2, .int .i64 v3, .int .i64 v4, .int .i64 v5, .int .u8 v6.1, .int .u64 v6.2.1, .string v6.2.2, .bool v7, .int .i64 v8, .string v9]) (results_cell_row Tryz.results69 _ _ r _ _ (0, 0) _ (by first | rfl | simp [Act.put]) hz Tryz.underlying40 rfl (show (Tryz.prog.info? 40).map (·.size) = some 11 by kernel_rfl)) rfl ?_
  exact ⟨rfl, R9.out.row NG.out NK.out _, gb_row G9.out RG.out _⟩
end Go.Proofs.YtdcjngakmkgbmaaGreat
namespace Go.Proofs.YtdcjngakmkgbmaaGreat
set_option linter.unusedVariables false
open Go.RowKit
/-- What so many readings read, up to the first fault. -/
def rdKL {α : Type} (rd : RS → α × RS) : Nat → RS → List α
  | 0, _ => []
  | k + 1, s => if s.y = 0 then (rd s).1 :: rdKL rd k (rd s).2 else []
/-- Where they end. -/
def rdKS {α : Type} (rd : RS → α × RS) : Nat → RS → RS
  | 0, s => s
  | k + 1, s => if s.y = 0 then rdKS rd k (rd s).2 else s
theorem rdKL_bad {α : Type} (rd : RS → α × RS) (k : Nat) {s : RS} (h : s.y ≠ 0) : rdKL rd k s = [] := by
  cases k with
  | zero => rfl
  | succ k => show (if s.y = 0 then _ else _) = _; rw [if_neg h]
theorem rdKS_bad {α : Type} (rd : RS → α × RS) (k : Nat) {s : RS} (h : s.y ≠ 0) : rdKS rd k s = s := by
  cases k with
  | zero => rfl
  | succ k => show (if s.y = 0 then _ else _) = _; rw [if_neg h]
theorem rdKL_len {α : Type} (rd : RS → α × RS) : ∀ (k : Nat) (s : RS), (rdKL rd k s).length ≤ k
  | 0, _ => Nat.le_refl _
  | k + 1, s => by
    show (if s.y = 0 then (rd s).1 :: rdKL rd k (rd s).2 else []).length ≤ _
    split
    · rw [List.length_cons]; exact Nat.succ_le_succ (rdKL_len rd k _)
    · exact Nat.zero_le _
/-- A list with its length ahead. -/
def rdL {α : Type} (rd : RS → α × RS) (bs : List Nat) (s : RS) : List α × RS := (rdKL rd (rdC bs s).1.toNat (rdC bs s).2, rdKS rd (rdC bs s).1.toNat (rdC bs s).2)
/-- Behind k readings of N. -/
def LsI {α : Type} (rd : RS → α × RS) (N : Nat) (s0 : RS) (k : Nat) (s : RS) : Prop :=
  k ≤ N ∧ (rdKL rd N s0).drop k = rdKL rd (N - k) s ∧ k ≤ (rdKL rd N s0).length ∧ rdKS rd N s0 = rdKS rd (N - k) s ∧ (s0.y = 0 ∨ s = s0)
section
variable {α : Type} {rd : RS → α × RS} {N k : Nat} {s0 s : RS}
theorem LsI.zero : LsI rd N s0 0 s0 := ⟨Nat.zero_le _, rfl, Nat.zero_le _, rfl, Or.inr rfl⟩
theorem LsI.ok (h : LsI rd N s0 k s) (hy : s.y = 0) : s0.y = 0 := by
  rcases h.2.2.2.2 with q | q
  · exact q
  · rw [← q]; exact hy
theorem LsI.get (h : LsI rd N s0 k s) (hk : k < N) (hy : s.y = 0) : (rdKL rd N s0)[k]? = some (rd s).1 := by
  obtain ⟨h1, h2, h3, h4, h5⟩ := h
  have e : (rdKL rd N s0)[k]? = ((rdKL rd N s0).drop k)[0]? := by rw [List.getElem?_drop, Nat.add_zero]
  rw [e, h2]
  obtain ⟨m, hm⟩ : ∃ m, N - k = m + 1 := ⟨N - k - 1, by omega⟩
  rw [hm]
  show (if s.y = 0 then _ else _)[0]? = _
  rw [if_pos hy]
  rfl
theorem LsI.next (h : LsI rd N s0 k s) (hk : k < N) (hy : s.y = 0) : LsI rd N s0 (k + 1) (rd s).2 := by
  have g := h.get hk hy
  have o := h.ok hy
  obtain ⟨h1, h2, h3, h4, h5⟩ := h
  obtain ⟨m, hm⟩ : ∃ m, N - k = m + 1 := ⟨N - k - 1, by omega⟩
  have hm' : N - (k + 1) = m := by omega
  refine ⟨hk, ?_, (List.getElem?_eq_some_iff.1 g).1, ?_, Or.inl o⟩
  · rw [← List.drop_drop, h2, hm, hm']
    show (if s.y = 0 then (rd s).1 :: rdKL rd m (rd s).2 else []).drop 1 = _
    rw [if_pos hy]
    rfl
  · rw [h4, hm, hm']
    show (if s.y = 0 then rdKS rd m (rd s).2 else s) = _
    rw [if_pos hy]
theorem LsI.last (h : LsI rd N s0 k s) (hk : k = N ∨ s.y ≠ 0) : (rdKL rd N s0).length = k ∧ rdKS rd N s0 = s := by
  obtain ⟨h1, h2, h3, h4, h5⟩ := h
  have e : rdKL rd (N - k) s = [] ∧ rdKS rd (N - k) s = s := by
    rcases hk with q | q
    · subst q; rw [Nat.sub_self]; exact ⟨rfl, rfl⟩
    · exact ⟨rdKL_bad rd _ q, rdKS_bad rd _ q⟩
  refine ⟨?_, h4.trans e.2⟩
  have := congrArg List.length (h2.trans e.1)
  rw [List.length_drop, List.length_nil] at this
  omega
end
section
variable {α : Type} {T : TypeId} {n base k g : Nat} {P : (Nat → Prop) → World → α → List Value → Prop} {l : List α} {out out' : Value} {wr W w7 : World}
end
end Go.Proofs.YtdcjngakmkgbmaaGreat
namespace Go.Proofs.YtdcjngakmkgbmaaGreat
set_option linter.unusedVariables false
open Go.RowKit
section
variable {P : Program} {ops : Array Oper} {Q : Exit → Act → World → Prop} {md : Region.Mode} {S : World → Prop} {j : Nat}
/-- Whatever order is picked from here on, and S holds behind every operation as long as number j has not come up. -/
def wpAnyJ (P : Program) (md : Region.Mode) (ops : Array Oper) (Q : Exit → Act → World → Prop) (S : World → Prop) (j : Nat) : Nat → Array Bool → Act → World → Prop
  | 0, listed, a, w => Region.ready md ops listed = [] ∧ Q .normal a w
  | fuel + 1, listed, a, w =>
    (Region.ready md ops listed = [] → Q .normal a w) ∧
    ∀ i ∈ Region.ready md ops listed, wpOp P ops Q i (fun a' w' => ((listed.setIfInBounds i true).getD j true = false → S w') ∧ wpAnyJ P md ops Q S j fuel (listed.setIfInBounds i true) a' w') a w
theorem wpAny_of_J : ∀ (fuel : Nat) (listed : Array Bool) (a : Act) (w : World), wpAnyJ P md ops Q S j fuel listed a w → wpAny P md ops Q fuel listed a w
  | 0, _, _, _, h => h
  | fuel + 1, _, _, _, h => ⟨h.1, fun i hi => wpOp_mono (fun a' w' h' => wpAny_of_J fuel _ a' w' h'.2) (h.2 i hi)⟩
theorem wpAnyJ_first {i : Nat} {oi : Oper} {v : Value} (hi : ops[i]? = some oi) (hsel : ∀ (j : Nat) (o : Oper) cs b, ops[j]? = some o → o.op ≠ .select cs b)
    (hQ : ∀ c a w, Q (.panic c) (a.put oi.dst v) w → Q (.panic c) a w) (hij : j ≠ i) (hj : ∀ oj, ops[j]? = some oj → ∃ e ∈ oj.after, Region.binds md e = true ∧ e.on = i) :
    ∀ (fuel : Nat) (listed : Array Bool) (a : Act) (w : World),
      (∀ k ok, ops[k]? = some ok → k ≠ i → listed.getD k true = false → (∀ e ∈ ok.after, Region.binds md e = true → e.on ≠ i) → oi.apart ops ok = true) →
      i ∈ Region.ready md ops listed → YieldsIf P ops S oi v a → listed.getD j true = false → S w →
      wpAnyJ P md ops Q S j fuel (listed.setIfInBounds i true) (a.put oi.dst v) w → wpAnyJ P md ops Q S j (fuel + 1) listed a w := by
  intro fuel
  induction fuel with
  | zero =>
    intro listed a w _ hr hy hu hS H
    refine ⟨fun h => (by rw [h] at hr; cases hr), fun k hk => ?_⟩
    by_cases hki : k = i
    · subst hki; exact hy.wpOp hi hS ⟨fun _ => hS, H⟩
    · have := ready_mono hk hki
      rw [H.1] at this
      cases this
  | succ fuel ih =>
    intro listed a w hfree hr hy hu hS H
    refine ⟨fun h => (by rw [h] at hr; cases hr), fun k hk => ?_⟩
    by_cases hki : k = i
    · subst hki; exact hy.wpOp hi hS ⟨fun _ => hS, H⟩
    · have h1 := H.2 k (ready_mono hk hki)
      obtain ⟨hjun, ok, hok, hall⟩ := mem_ready.1 hk
      have notI : ∀ e ∈ ok.after, Region.binds md e = true → e.on ≠ i := fun e he hb heq => by
        have h1 := hall e he hb
        have h0 := (mem_ready.1 hr).1
        rw [heq] at h1
        rcases Nat.lt_or_ge i listed.size with h' | h'
        · simp [h'] at h0 h1; rw [h0] at h1; cases h1
        · simp [Array.getElem?_eq_none h'] at h1
      have hkj : k ≠ j := fun e => by
        subst e
        obtain ⟨e, he, hb, ho⟩ := hj ok hok
        exact notI e he hb ho
      have h2 := wpOp_putIf hok (hfree k ok hok hki hjun notI) (fun cs b => hsel i oi cs b hi) (fun cs b => hsel k ok cs b hok) hQ hy h1
      have hu' : (listed.setIfInBounds k true).getD j true = false := by rw [getD_set_ne true hkj]; exact hu
      have hfree' : ∀ k' ok', ops[k']? = some ok' → k' ≠ i → (listed.setIfInBounds k true).getD k' true = false →
          (∀ e ∈ ok'.after, Region.binds md e = true → e.on ≠ i) → oi.apart ops ok' = true := fun k' ok' hk' hki' hun hno => by
        refine hfree k' ok' hk' hki' ?_ hno
        by_cases hjk : k = k'
        · subst hjk; exact hjun
        · rw [getD_set_ne true hjk] at hun; exact hun
      refine wpOp_mono (fun a' w' h3 => ?_) h2
      have hS' : S w' := h3.2.1 (by rw [getD_set_ne true hkj, getD_set_ne true (Ne.symm hij)]; exact hu)
      refine ⟨fun _ => hS', ih (listed.setIfInBounds k true) a' w' hfree' (ready_mono hr (Ne.symm hki)) h3.1 hu' hS' ?_⟩
      rw [Array.setIfInBounds_comm _ _ hki]
      exact h3.2.2
/-- Does number j wait for number i? -/
def waitsB (md : Region.Mode) (ops : Array Oper) (j i : Nat) : Bool := match ops[j]? with
  | some oj => oj.after.any fun e => Region.binds md e && e.on == i
  | none => true
theorem waitsB_spec {i : Nat} (h : waitsB md ops j i = true) : ∀ oj, ops[j]? = some oj → ∃ e ∈ oj.after, Region.binds md e = true ∧ e.on = i := by
  intro oj ho
  unfold waitsB at h
  rw [ho] at h
  simp only [Array.any_eq_true', Bool.and_eq_true, beq_iff_eq] at h
  obtain ⟨e, he, hb, hn⟩ := h
  exact ⟨e, he, hb, hn⟩
theorem wpAnyJ_take {i : Nat} {oi : Oper} {v : Value} {fuel : Nat} {listed : Array Bool} {a : Act} {w : World} (hi : ops[i]? = some oi)
    (hs : Region.noSelect ops = true) (hf : Region.free md ops listed i = true) (hr : (Region.ready md ops listed).contains i = true)
    (hij : (j != i && waitsB md ops j i && !(listed.getD j true)) = true)
    (hQ : ∀ c a w, Q (.panic c) (a.put oi.dst v) w → Q (.panic c) a w) (hy : YieldsIf P ops S oi v a) (hS : S w)
    (h : wpAnyJ P md ops Q S j fuel (listed.setIfInBounds i true) (a.put oi.dst v) w) : wpAnyJ P md ops Q S j (fuel + 1) listed a w := by
  simp only [Bool.and_eq_true, bne_iff_ne, ne_eq, Bool.not_eq_true'] at hij
  exact wpAnyJ_first hi (Region.noSelect_spec hs) hQ hij.1.1 (waitsB_spec hij.1.2) fuel listed a w (Region.free_spec hi hf) (by simpa using hr) hy hij.2 hS h
/-- Just one may come up. -/
theorem wpAnyJ_one {i : Nat} {o : Oper} {fuel : Nat} {listed : Array Bool} {a : Act} {w : World} (hr : Region.ready md ops listed = [i]) (ho : ops[i]? = some o)
    (h : ∀ K' : Act → World → Prop, Shut (∀ a w, ((listed.setIfInBounds i true).getD j true = false → S w) → wpAnyJ P md ops Q S j fuel (listed.setIfInBounds i true) a w → K' a w) → if Region.wanted o (yielded ops a.tmps) = true then Oper.wp P o a w K' Q else K' (a.put o.dst undef) w) :
    wpAnyJ P md ops Q S j (fuel + 1) listed a w :=
  ⟨fun h0 => absurd (hr ▸ h0) (by simp), fun k hk => by
    rw [hr] at hk
    obtain rfl := List.mem_singleton.1 hk
    exact wpOp_step ho (fun K' hK => h K' (fun a w hS hW => hK a w ⟨hS, hW⟩))⟩
theorem wpAnyJ_done {listed : Array Bool} {a : Act} {w : World} (hr : Region.ready md ops listed = []) (h : Q .normal a w) : ∀ fuel, wpAnyJ P md ops Q S j fuel listed a w
  | 0 => ⟨hr, h⟩
  | _ + 1 => ⟨fun _ => h, by rw [hr]; simp⟩
theorem wp_region_J (j : Nat) (S : World → Prop) {id : Nat} {a : Act} {w : World} (hm : P.follows .mixedOrders = true) (hS : S w.drew)
    (h : S w.drew → wpAnyJ P .any ops Q S j ops.size (Array.replicate ops.size false) a w.drew) : (Code.region id ops true).wp P Q a w :=
  wp_region_any hm (wpAny_of_J _ _ _ _ (h hS))
end
end Go.Proofs.YtdcjngakmkgbmaaGreat
namespace Go.Proofs.YtdcjngakmkgbmaaGreat
set_option linter.unusedVariables false
open Go.RowKit
theorem mk_cells (w : World) (L : List Value) (t : TypeId) (j : Nat) (u : Value) (h : L[j]? = some u) : (w.alloc (.cells L.toArray t)).cell? ((⟨w.heap.size, 0, none⟩ : Addr).add j) = some u := by
  have e : (⟨w.heap.size, 0, none⟩ : Addr).add j = ⟨w.heap.size, j, none⟩ := by unfold Addr.add; split <;> simp_all
  rw [e]
  have q := heap_alloc_last w (.cells L.toArray t)
  unfold World.cell?
  simp only [q]
  simpa using h
end Go.Proofs.YtdcjngakmkgbmaaGreat
namespace Go.Proofs.YtdcjngakmkgbmaaGreat
set_option linter.unusedVariables false
open Go.RowKit
theorem up_sub' {a b a2 b2 : Nat} (h1 : a2 ≤ a) (h2 : b ≤ b2) : ∀ k, Fresh a b k → Fresh a2 b2 k := fun k h => ⟨Nat.le_trans h1 h.1, Nat.lt_of_lt_of_le h.2 h2⟩
theorem ob_ne {u : Value} {a b g : Nat} (h : ∀ k, u.ownBlock = some k → a ≤ k ∧ k < b) (hg : g < a) : u.ownBlock = none ∨ u.ownBlock ≠ some g := Or.inr fun q => by have := (h g q).1; omega
theorem gb_own {a b c : World} {g : Nat} {r : Option Nat} (h : a.grownBy b (some g)) (k : b.grownBy c r) (hr : ∀ i, r = some i → a.heap.size ≤ i) : a.grownBy c (some g) :=
  ⟨k.os.trans h.os, k.tape.trans h.tape, k.output.trans h.output, Nat.le_trans h.size k.size, fun i hi hn => (k.block i (Nat.lt_of_lt_of_le hi h.size) (fun q => by have := hr i q.symm; omega)).trans (h.block i hi hn)⟩
theorem Rd.grown {g kb o c : Nat} {bs : List Nat} {s : RS} {V W : World} {r : Option Nat} (h : Rd g kb o c bs s V) (hg : V.grownBy W r) (h1 : r ≠ some g) (h2 : r ≠ some kb) : Rd g kb o c bs s W :=
  ⟨by have := h.at_; unfold RdAt at *; rw [hg.block g h.lt (fun q => h1 q.symm)]; exact this, fun j v hj => hg.cell (h.by_ j v hj) (fun q => h2 q.symm), h.le, h.n4, h.nc, h.ne, Nat.lt_of_lt_of_le h.kl hg.size, h.b8⟩
theorem keptI {α : Type} (cs : α → List Value) : Kept (fun (S : Nat → Prop) (w : World) => Is cs) where
  fr := fun h _ => h
  sub := fun _ h => h
theorem infRlN : ∃ i z, Tryz.prog.info? 3 = some i ∧ i.zero = some z ∧ i.size = 1 ∧ i.bytes = 8 ∧ z.cells.size = 1 := by
  obtain ⟨i, hi, hz⟩ := Option.map_eq_some_iff.1 (show (Tryz.prog.info? 3).map (fun i => (i.zero.map (·.cells.size), i.size, i.bytes)) = some (some 1, 1, 8) by kernel_rfl)
  simp only [Prod.mk.injEq] at hz
  obtain ⟨z, h1, h2⟩ := Option.map_eq_some_iff.1 hz.1
  exact ⟨i, z, hi, h1, hz.2.1, hz.2.2, h2⟩
theorem infRlL : ∃ i z, Tryz.prog.info? 48 = some i ∧ i.zero = some z ∧ i.size = 3 ∧ i.bytes = 24 ∧ z.cells.size = 3 := by
  obtain ⟨i, hi, hz⟩ := Option.map_eq_some_iff.1 (show (Tryz.prog.info? 48).map (fun i => (i.zero.map (·.cells.size), i.size, i.bytes)) = some (some 3, 3, 24) by kernel_rfl)
  simp only [Prod.mk.injEq] at hz
  obtain ⟨z, h1, h2⟩ := Option.map_eq_some_iff.1 hz.1
  exact ⟨i, z, hi, h1, hz.2.1, hz.2.2, h2⟩
theorem infRlO : ∃ i z, Tryz.prog.info? 46 = some i ∧ i.zero = some z ∧ i.size = 10 ∧ i.bytes = 88 ∧ z.cells.size = 10 := by
  obtain ⟨i, hi, hz⟩ := Option.map_eq_some_iff.1 (show (Tryz.prog.info? 46).map (fun i => (i.zero.map (·.cells.size), i.size, i.bytes)) = some (some 10, 10, 88) by kernel_rfl)
  simp only [Prod.mk.injEq] at hz
  obtain ⟨z, h1, h2⟩ := Option.map_eq_some_iff.1 hz.1
  exact ⟨i, z, hi, h1, hz.2.1, hz.2.2, h2⟩
theorem infRlC : ∃ i z, Tryz.prog.info? 40 = some i ∧ i.zero = some z ∧ i.size = 11 ∧ i.bytes = 96 ∧ z.cells.size = 11 := by
  obtain ⟨i, hi, hz⟩ := Option.map_eq_some_iff.1 (show (Tryz.prog.info? 40).map (fun i => (i.zero.map (·.cells.size), i.size, i.bytes)) = some (some 11, 11, 96) by kernel_rfl)
  simp only [Prod.mk.injEq] at hz
  obtain ⟨z, h1, h2⟩ := Option.map_eq_some_iff.1 hz.1
  exact ⟨i, z, hi, h1, hz.2.1, hz.2.2, h2⟩
end Go.Proofs.YtdcjngakmkgbmaaGreat
namespace Go.Proofs.YtdcjngakmkgbmaaGreat.Ty
set_option linter.unusedVariables false
set_option linter.unusedSimpArgs false
open Go.RowKit
/-- What the blocks of S hold stays. -/
def FrB (S : Nat → Prop) (w w' : World) : Prop := ∀ g, S g → w'.heap[g]? = w.heap[g]?
theorem FrB.cells {S : Nat → Prop} {w w' : World} (h : FrB S w w') : FrS S w w' := fun q hq => World.cell?_of_block (h _ hq)
/-- What tells a record's cells is kept where the blocks of S are. -/
structure KeptB {α : Type} (P : (Nat → Prop) → World → α → List Value → Prop) : Prop where
  fr : ∀ {S : Nat → Prop} {w w' : World} {e : α} {vs : List Value}, P S w e vs → FrB S w w' → P S w' e vs
  sub : ∀ {S T : Nat → Prop} {w : World} {e : α} {vs : List Value}, (∀ b, S b → T b) → P S w e vs → P T w e vs
/-- A block of one type, with room for k records of n cells. -/
def Ow (T : TypeId) (n : Nat) (S : Nat → Prop) (w : World) (y : Option Addr) (k N : Nat) : Prop :=
  (y = none ∧ k = 0 ∧ N = 0) ∨ ∃ g cur, y = some ⟨g, 0, none⟩ ∧ S g ∧ w.heap[g]? = some (.cells cur T (0, 0)) ∧ N ≤ k ∧ k ≤ maxLen ∧ cur.size = k * n
section
variable {α : Type} {T : TypeId} {n k N : Nat} {P : (Nat → Prop) → World → α → List Value → Prop} {S : Nat → Prop} {w w' : World} {y : Option Addr} {l : List α}
theorem Ow.fr (h : Ow T n S w y k N) (f : FrB S w w') : Ow T n S w' y k N := by
  rcases h with h | ⟨g, cur, h1, h2, h3, h4⟩
  · exact .inl h
  · exact .inr ⟨g, cur, h1, h2, (f g h2).trans h3, h4⟩
theorem Ow.sub {S' : Nat → Prop} (hS : ∀ b, S b → S' b) (h : Ow T n S w y k N) : Ow T n S' w y k N := by
  rcases h with h | ⟨g, cur, h1, h2, h3, h4⟩
  · exact .inl h
  · exact .inr ⟨g, cur, h1, hS g h2, h3, h4⟩
end
/-- Records in a row of one's own, told with its room. -/
def RwT {α : Type} (T : TypeId) (n : Nat) (P : α → List Value → Prop) (S : Nat → Prop) (w : World) (y : Option Addr) (k : Nat) (l : List α) : Prop := RwF n P S w y l ∧ Ow T n S w y k l.length
section
variable {α : Type} {T : TypeId} {n k : Nat} {P : (Nat → Prop) → World → α → List Value → Prop} {S : Nat → Prop} {w w' : World} {y : Option Addr} {l : List α}
theorem RwT.frK (K : KeptB P) (h : RwT T n (P S w) S w y k l) (f : FrB S w w') : RwT T n (P S w') S w' y k l :=
  ⟨(h.1.fr f.cells).imp fun e vs _ q => K.fr q f, h.2.fr f⟩
theorem RwT.subK {S' : Nat → Prop} (K : KeptB P) (hS : ∀ b, S b → S' b) (h : RwT T n (P S w) S w y k l) : RwT T n (P S' w) S' w y k l :=
  ⟨(h.1.sub hS).imp fun e vs _ q => K.sub hS q, h.2.sub hS⟩
end
theorem keptI {α : Type} (cs : α → List Value) : KeptB (fun (S : Nat → Prop) (w : World) => Is cs) where
  fr := fun h _ => h
  sub := fun _ h => h
section
variable {α : Type} {T : TypeId} {n base k g : Nat} {P : (Nat → Prop) → World → α → List Value → Prop} {l : List α} {out out' : Value} {wr W w7 : World}
theorem mk_stepG (K : KeptB P) (hgb : g < base) {vss : List (List Value)} (el : vss.length = k) (hn : ∀ v ∈ vss, v.length = n)
    (hf : ∀ (i : Nat) vs e, vss[i]? = some vs → l[i]? = some e → P (fun b => Fresh base wr.heap.size b ∧ out.ownBlock ≠ some b) wr e vs)
    (hlt : ∀ g, out.ownBlock = some g → base ≤ g ∧ g < wr.heap.size)
    (vs : List Value) (e : α) (he : l[k]? = some e) (hvn : vs.length = n) (s0 : base ≤ wr.heap.size) (b5 : wr.grownBy W (some g))
    (hv : P (Fresh wr.heap.size W.heap.size) W e vs) (hg : W.grownBy w7 out.ownBlock)
    (ho : w7.ownsRow base T n out' (k + 1) (vss.flatten ++ vs)) (hb : out'.ownBlock = out.ownBlock ∨ out'.ownBlock = some W.heap.size) : MkI T n P base l (k + 1) out' w7 := by
  have s5 := b5.size
  have s7 := hg.size
  have ne : ∀ b, b < W.heap.size → out.ownBlock ≠ some b → out'.ownBlock ≠ some b := fun b h1 h2 h3 => by
    rcases hb with q | q
    · exact h2 (q ▸ h3)
    · rw [q] at h3; simp at h3; omega
  refine ⟨vss ++ [vs], by simp [el], fun v hv => ?_, by rw [List.flatten_append]; simpa using ho, fun i t' e' ht hl => ?_⟩
  · rcases List.mem_append.1 hv with q | q
    · exact hn v q
    · rw [List.mem_singleton.1 q]; exact hvn
  by_cases hi : i < k
  · rw [List.getElem?_append_left (by omega)] at ht
    have h := hf i t' e' ht hl
    refine K.sub (fun b hb => ⟨⟨hb.1.1, by have := hb.1.2; omega⟩, ne b (by have := hb.1.2; omega) hb.2⟩) (K.fr (w' := w7) h fun q hq => ?_)
    have q1 := hq.1.1
    have q2 := hq.1.2
    exact (hg.block _ (by omega) (fun h => hq.2 h.symm)).trans (b5.block _ q2 (fun h => by cases h; omega))
  · have ik : i = k := by
      have := (List.getElem?_eq_some_iff.1 ht).1
      simp at this
      omega
    subst ik
    rw [List.getElem?_append_right (by omega), el] at ht
    simp at ht
    subst ht
    rw [he] at hl
    cases hl
    have no : ∀ b, wr.heap.size ≤ b → out.ownBlock ≠ some b := fun b h1 h2 => by have := (hlt b h2).2; omega
    refine K.sub (fun b hb => ⟨⟨by have := hb.1; omega, by have := hb.2; omega⟩, ne b (by have := hb.2; omega) (no b hb.1)⟩) (K.fr (w' := w7) hv fun q hq => ?_)
    have q1 := hq.1
    have q2 := hq.2
    exact hg.block _ (by omega) (fun h => no _ q1 h.symm)
theorem mk_done (K : KeptB P) (h : MkI T n P base l l.length out wr) (hf : few l.length) : ∃ y c, out = .slice y l.length c ∧ RwT T n (P (Fresh base wr.heap.size) wr) (Fresh base wr.heap.size) wr y c l := by
  obtain ⟨vss, el, hn, ho, hv⟩ := h
  have lt := ho.lt
  obtain ⟨y, c, e, h0, ha⟩ := own_rows ho hn el
  refine ⟨y, c, e, ⟨hf, fun q => List.length_eq_zero_iff.1 (h0 q), fun a q i t ht => ?_⟩, ?_⟩
  · obtain ⟨h1, h2, h3⟩ := ha a q
    have il : i < l.length := (List.getElem?_eq_some_iff.1 ht).1
    obtain ⟨vs, hvs⟩ : ∃ vs, vss[i]? = some vs := ⟨_, List.getElem?_eq_getElem (by omega)⟩
    exact ⟨h1, vs, K.sub (fun b hb => hb.1) (hv i vs t hvs ht), h3 i vs hvs⟩
  · rcases ho.2 with ⟨q1, q2⟩ | ⟨g, cap, cur, q1, q2, q3, q4, q5, q6, q7⟩
    · rw [q1] at e
      obtain ⟨e1, e2, e3⟩ := Value.slice.inj e
      exact .inl ⟨e1.symm, e3.symm, e2.symm⟩
    · have q8 := lt g (by rw [q1]; rfl)
      rw [q1] at e
      obtain ⟨e1, e2, e3⟩ := Value.slice.inj e
      subst e3
      exact .inr ⟨g, cur, e1.symm, q8, q3, q4, q5, q6⟩
end
def FlT (S : Nat → Prop) (w : World) (f : FlR) (x1 : Option Addr) (c1 : Nat) (x2 : Option Addr) (c2 : Nat) : Prop := RwT 46 10 (Is opC) S w x1 c1 f.os ∧ RwT 48 3 (Is lpC) S w x2 c2 f.ls
def FlTP (S : Nat → Prop) (w : World) (f : FlR) (vs : List Value) : Prop := ∃ x1 c1 x2 c2, vs = flC f (.slice x1 f.os.length c1) (.slice x2 f.ls.length c2) ∧ FlT S w f x1 c1 x2 c2
def JbT (S : Nat → Prop) (w : World) (j : JbR) (x1 : Option Addr) (c1 : Nat) (x2 : Option Addr) (c2 : Nat) : Prop := RwT 3 1 (Is inC) S w x1 c1 j.cs ∧ RwT 3 1 (Is inC) S w x2 c2 j.bs
def JbTP (S : Nat → Prop) (w : World) (j : JbR) (vs : List Value) : Prop := ∃ x1 c1 x2 c2, vs = jbC j (.slice x1 j.cs.length c1) (.slice x2 j.bs.length c2) ∧ JbT S w j x1 c1 x2 c2
theorem FlT.fr {S : Nat → Prop} {w w' : World} {f : FlR} {x1 x2 : Option Addr} {c1 c2 : Nat} (h : FlT S w f x1 c1 x2 c2) (k : FrB S w w') : FlT S w' f x1 c1 x2 c2 := ⟨h.1.frK (keptI _) k, h.2.frK (keptI _) k⟩
theorem FlT.sub {S S' : Nat → Prop} (hS : ∀ b, S b → S' b) {w : World} {f : FlR} {x1 x2 : Option Addr} {c1 c2 : Nat} (h : FlT S w f x1 c1 x2 c2) : FlT S' w f x1 c1 x2 c2 := ⟨h.1.subK (keptI _) hS, h.2.subK (keptI _) hS⟩
theorem JbT.fr {S : Nat → Prop} {w w' : World} {f : JbR} {x1 x2 : Option Addr} {c1 c2 : Nat} (h : JbT S w f x1 c1 x2 c2) (k : FrB S w w') : JbT S w' f x1 c1 x2 c2 := ⟨h.1.frK (keptI _) k, h.2.frK (keptI _) k⟩
theorem JbT.sub {S S' : Nat → Prop} (hS : ∀ b, S b → S' b) {w : World} {f : JbR} {x1 x2 : Option Addr} {c1 c2 : Nat} (h : JbT S w f x1 c1 x2 c2) : JbT S' w f x1 c1 x2 c2 := ⟨h.1.subK (keptI _) hS, h.2.subK (keptI _) hS⟩
theorem keptF : KeptB FlTP where
  fr := fun ⟨x1, c1, x2, c2, e, h⟩ f => ⟨x1, c1, x2, c2, e, h.fr f⟩
  sub := fun hS ⟨x1, c1, x2, c2, e, h⟩ => ⟨x1, c1, x2, c2, e, h.sub hS⟩
theorem keptJ : KeptB JbTP where
  fr := fun ⟨x1, c1, x2, c2, e, h⟩ f => ⟨x1, c1, x2, c2, e, h.fr f⟩
  sub := fun hS ⟨x1, c1, x2, c2, e, h⟩ => ⟨x1, c1, x2, c2, e, h.sub hS⟩
theorem FlT.q {S : Nat → Prop} {w : World} {f : FlR} {x1 x2 : Option Addr} {c1 c2 : Nat} (h : FlT S w f x1 c1 x2 c2) : FlQ S w f x1 x2 := ⟨h.1.1, h.2.1⟩
theorem JbT.q {S : Nat → Prop} {w : World} {f : JbR} {x1 x2 : Option Addr} {c1 c2 : Nat} (h : JbT S w f x1 c1 x2 c2) : JbQ S w f x1 x2 := ⟨h.1.1, h.2.1⟩
def ImT (S : Nat → Prop) (w : World) (m : ImR) (x1 : Option Addr) (c1 : Nat) (x2 : Option Addr) (c2 : Nat) (x3 : Option Addr) (c3 : Nat) : Prop := RwT 40 11 (Is ceC) S w x1 c1 m.cs ∧ RwT 44 8 (FlTP S w) S w x2 c2 m.fs ∧ RwT 51 7 (JbTP S w) S w x3 c3 m.js
section
variable {S : Nat → Prop} {w w' : World} {m : ImR} {x1 x2 x3 : Option Addr} {c1 c2 c3 : Nat}
theorem ImT.fr (h : ImT S w m x1 c1 x2 c2 x3 c3) (k : FrB S w w') : ImT S w' m x1 c1 x2 c2 x3 c3 := ⟨h.1.frK (keptI _) k, h.2.1.frK keptF k, h.2.2.frK keptJ k⟩
theorem ImT.sub {S' : Nat → Prop} (hS : ∀ b, S b → S' b) (h : ImT S w m x1 c1 x2 c2 x3 c3) : ImT S' w m x1 c1 x2 c2 x3 c3 := ⟨h.1.subK (keptI _) hS, h.2.1.subK keptF hS, h.2.2.subK keptJ hS⟩
theorem ImT.q (h : ImT S w m x1 c1 x2 c2 x3 c3) : ImQ S w m x1 x2 x3 :=
  ⟨h.1.1, h.2.1.1.imp fun e vs _ ⟨a, b, c, d, q, r⟩ => ⟨a, b, c, d, q, r.q⟩, h.2.2.1.imp fun e vs _ ⟨a, b, c, d, q, r⟩ => ⟨a, b, c, d, q, r.q⟩⟩
end
end Go.Proofs.YtdcjngakmkgbmaaGreat.Ty
namespace Go.Proofs.YtdcjngakmkgbmaaGreat.Ty
set_option linter.unusedVariables false
set_option linter.unusedSimpArgs false
open Go.RowKit
/-- What an append to a slice of any place does, at one operation. -/
theorem wp_append_arg {P : Program} {w : World} {o : Oper} {a : Act} {K : Act → World → Prop} {Q : Exit → Act → World → Prop} (s x : Operand) (t : TypeId) (hop : o.op = Op.call { callee := Callee.builtin Builtin.append, args := #[s, x], argTypes := #[t, t] })
    (e : TypeId) (i : TypeInfo) (z : Value) (size bytes : Nat) (h1 : P.underlying t = some (.slice e)) (h2 : P.info? e = some i) (h3 : i.zero = some z) (h4 : i.size = size) (h5 : i.bytes = bytes) (h6 : z.cells.size = size) (h7 : 0 < size)
    (b off n cap : Nat) (olds : List Value) (hs : a.eval s = .slice (some ⟨b, off, none⟩) n cap) (hlo : olds.length = n * size) (holds : ∀ j u, olds[j]? = some u → w.cell? ⟨b, off + j, none⟩ = some u)
    (ad : Addr) (m c : Nat) (news : List Value) (hx : a.eval x = .slice (some ad) m c) (hn : news.length = m * size) (hc : ∀ j u, news[j]? = some u → w.cell? (ad.add j) = some u) (h1c : ∀ u ∈ news, u.oneCell' = true)
    (hspare : n + m ≤ cap → ∀ j, j < news.length → (w.cell? ⟨b, off + n * size + j, none⟩).isSome = true ∧ w.frozen? ⟨b, off + n * size + j, none⟩ = false)
    (b1 : n + m ≤ maxLen) (b2 : (n + m) * bytes ≤ 140737488355328)
    (hroom : n + m ≤ cap → K (a.put o.dst (.slice (some ⟨b, off, none⟩) (n + m) cap)) (w.setCells b (off + n * size) news))
    (hgrow : cap < n + m → ∀ v' w', w'.ownsRow w.heap.size e size v' (n + m) (olds ++ news) → w.grownBy w' none → K (a.put o.dst v') w') :
    Oper.wp P o a w K Q := by
  by_cases hr : n + m ≤ cap
  · subst h4
    have hrun := run_append_room_cells (P := P) w t o.type e i h1 h2 b off n cap ad m c news hn hc h1c hr (fun j hj => (hspare hr j hj).1) (fun j hj => (hspare hr j hj).2)
    unfold Oper.wp
    simp [execOp, hop, resolve, invoke, builtin, hs, hx, hrun, Result.andThen]
    exact hroom hr
  · obtain ⟨v', w', hrun, r1, r2⟩ := run_append_arg_grows (P := P) w t o.type e i z size bytes h1 h2 h3 h4 h5 h6 h7 ⟨b, off, none⟩ n cap olds hlo (fun j u hj => by rw [Addr.add_lit]; exact holds j u hj) ad m c news hn hc (by omega) b1 b2
    unfold Oper.wp
    simp [execOp, hop, resolve, invoke, builtin, hs, hx, hrun, Result.andThen]
    exact hgrow (by omega) v' w' r1 r2
theorem wp_append_none {P : Program} {w : World} {o : Oper} {a : Act} {K : Act → World → Prop} {Q : Exit → Act → World → Prop} (s x : Operand) (t : TypeId) (hop : o.op = Op.call { callee := Callee.builtin Builtin.append, args := #[s, x], argTypes := #[t, t] })
    (e : TypeId) (i : TypeInfo) (z : Value) (size bytes : Nat) (h1 : P.underlying t = some (.slice e)) (h2 : P.info? e = some i) (h3 : i.zero = some z) (h4 : i.size = size) (h5 : i.bytes = bytes) (h6 : z.cells.size = size) (h7 : 0 < size)
    (hs : a.eval s = .slice none 0 0)
    (ad : Addr) (m c : Nat) (news : List Value) (hx : a.eval x = .slice (some ad) m c) (hn : news.length = m * size) (hc : ∀ j u, news[j]? = some u → w.cell? (ad.add j) = some u) (h1c : ∀ u ∈ news, u.oneCell' = true)
    (b1 : 0 + m ≤ maxLen) (b2 : (0 + m) * bytes ≤ 140737488355328)
    (hgrow : ∀ v' w', w.grownBy w' none → (∃ y n c, v' = .slice y n c) → K (a.put o.dst v') w') :
    Oper.wp P o a w K Q := by
  obtain ⟨v', w', hrun, r1, r2, _⟩ := run_append_own_at (P := P) w w.heap.size t o.type e i z size bytes h1 h2 h3 h4 h5 h6 h7 (.slice none 0 0) 0 [] (World.ownsRow_nil _ _ _ _) ad m c news hn hc h1c b1 b2 (Nat.le_refl _)
  unfold Oper.wp
  simp [execOp, hop, resolve, invoke, builtin, hs, hx, hrun, Result.andThen]
  refine hgrow v' w' r2 ?_
  rcases r1.2 with ⟨q, _⟩ | ⟨g, cap, cur, q, _⟩
  · exact ⟨_, _, _, q⟩
  · exact ⟨_, _, _, q⟩
theorem wp_append_ow {P : Program} {w : World} {o : Oper} {a : Act} {K : Act → World → Prop} {Q : Exit → Act → World → Prop} (s x : Operand) (t : TypeId) (hop : o.op = Op.call { callee := Callee.builtin Builtin.append, args := #[s, x], argTypes := #[t, t] })
    (e : TypeId) (i : TypeInfo) (z : Value) (size bytes : Nat) (h1 : P.underlying t = some (.slice e)) (h2 : P.info? e = some i) (h3 : i.zero = some z) (h4 : i.size = size) (h5 : i.bytes = bytes) (h6 : z.cells.size = size) (h7 : 0 < size)
    (xl : Option Addr) (n cl : Nat) (hs : a.eval s = .slice xl n cl) (ho : (xl = none ∧ cl = 0 ∧ n = 0) ∨ ∃ b cur, xl = some ⟨b, 0, none⟩ ∧ w.heap[b]? = some (.cells cur e (0, 0)) ∧ n ≤ cl ∧ cur.size = cl * size)
    (ad : Addr) (c : Nat) (news : List Value) (hx : a.eval x = .slice (some ad) 1 c) (hn : news.length = size) (hc : ∀ j u, news[j]? = some u → w.cell? (ad.add j) = some u) (h1c : ∀ u ∈ news, u.oneCell' = true)
    (b1 : n + 1 ≤ maxLen) (b2 : (n + 1) * bytes ≤ 140737488355328)
    (h : ∀ y n' c' w', (w.grownBy w' none ∨ ∃ b off, xl = some ⟨b, 0, none⟩ ∧ w' = w.setCells b off news) → K (a.put o.dst (.slice y n' c')) w') :
    Oper.wp P o a w K Q := by
  rcases ho with ⟨rfl, rfl, rfl⟩ | ⟨b, cur, rfl, hb, hcl, hsz⟩
  · refine wp_append_none s x t hop e i z size bytes h1 h2 h3 h4 h5 h6 h7 hs ad 1 c news hx (by omega) hc h1c b1 b2 ?_
    rintro v' w' hg ⟨y, n', c', rfl⟩
    exact h y n' c' w' (.inl hg)
  · have hlt : n * size ≤ cur.size := by rw [hsz]; exact Nat.mul_le_mul_right _ hcl
    refine wp_append_arg s x t hop e i z size bytes h1 h2 h3 h4 h5 h6 h7 b 0 n cl (cur.toList.take (n * size)) hs (by rw [List.length_take, Array.length_toList]; omega) (fun j u hu => ?_) ad 1 c news hx (by omega) hc h1c (fun hr j hj => ?_) b1 b2 (fun _ => h _ _ _ _ (.inr ⟨b, _, rfl, rfl⟩)) (fun _ v' w' r1 r2 => ?_)
    · have hj : j < n * size := by
        have := (List.getElem?_eq_some_iff.1 hu).1
        rw [List.length_take] at this
        omega
      rw [List.getElem?_take, if_pos hj, Array.getElem?_toList] at hu
      simp only [World.cell?, hb, Nat.zero_add]
      exact hu
    · have hj2 : n * size + j < cur.size := by
        have : (n + 1) * size ≤ cl * size := Nat.mul_le_mul_right _ hr
        rw [Nat.add_mul] at this
        omega
      refine ⟨?_, by simp [World.frozen?, hb]⟩
      simp [World.cell?, hb, Array.getElem?_eq_getElem hj2]
    · rcases r1.2 with ⟨q, _⟩ | ⟨g, cap, cu, q, _⟩
      · rw [q]; exact h _ _ _ _ (.inl r2)
      · rw [q]; exact h _ _ _ _ (.inl r2)
theorem ty_ne : 51 ≠ 40 ∧ 51 ≠ 46 ∧ 51 ≠ 48 ∧ 51 ≠ 3 ∧ 51 ≠ 44 ∧ 44 ≠ 40 ∧ 44 ≠ 46 ∧ 44 ≠ 48 ∧ 44 ≠ 3 := by decide
/-- Stored into between lo and hi alone: what lies there keeps its type and its size; rows of jobs stay, rows of codes from record i on. -/
structure Iv (U0 : World) (lo hi i : Nat) (U : World) : Prop where
  os : U.os = U0.os
  tape : U.tape = U0.tape
  output : U.output = U0.output
  size : U0.heap.size ≤ U.heap.size
  out : ∀ k, k < U0.heap.size → (k < lo ∨ hi ≤ k) → U.heap[k]? = U0.heap[k]?
  inn : ∀ k cur T, lo ≤ k → k < hi → U0.heap[k]? = some (.cells cur T (0, 0)) → ∃ cur', U.heap[k]? = some (.cells cur' T (0, 0)) ∧ cur'.size = cur.size ∧ (T = 51 → cur' = cur) ∧ (T = 44 → ∀ j, i * 8 ≤ j → cur'[j]? = cur[j]?)
theorem iv_lt {w : World} {k : Nat} {x : Obj} (h : w.heap[k]? = some x) : k < w.heap.size := (Array.getElem?_eq_some_iff.1 h).1
section
variable {U0 U U' : World} {lo hi i : Nat}
theorem Iv.refl (U0 : World) (lo hi i : Nat) : Iv U0 lo hi i U0 := ⟨rfl, rfl, rfl, Nat.le_refl _, fun _ _ _ => rfl, fun k cur T _ _ h => ⟨cur, h, rfl, fun _ => rfl, fun _ _ _ => rfl⟩⟩
theorem Iv.grown (h : Iv U0 lo hi i U) (g : U.grownBy U' none) : Iv U0 lo hi i U' :=
  ⟨g.os.trans h.os, g.tape.trans h.tape, g.output.trans h.output, Nat.le_trans h.size g.size, fun k hk q => (g.block k (Nat.lt_of_lt_of_le hk h.size) (by simp)).trans (h.out k hk q), fun k cur T h1 h2 h3 => by
    obtain ⟨cur', e, r⟩ := h.inn k cur T h1 h2 h3
    exact ⟨cur', (g.block k (iv_lt e) (by simp)).trans e, r⟩⟩
theorem Iv.next (h : Iv U0 lo hi i U) : Iv U0 lo hi (i + 1) U :=
  ⟨h.os, h.tape, h.output, h.size, h.out, fun k cur T h1 h2 h3 => by
    obtain ⟨cur', e, r1, r2, r3⟩ := h.inn k cur T h1 h2 h3
    exact ⟨cur', e, r1, r2, fun q j hj => r3 q j (by omega)⟩⟩
theorem Iv.set {k : Nat} {cur : Array Value} {T : TypeId} (h : Iv U0 lo hi i U) (h1 : lo ≤ k) (h2 : k < hi) (h0 : U0.heap[k]? = some (.cells cur T (0, 0))) (n1 : 51 ≠ T) (n2 : 44 ≠ T) (j : Nat) (v : Value) : Iv U0 lo hi i (U.setCell ⟨k, j, none⟩ v) := by
  refine ⟨h.os, h.tape, h.output, by simpa [World.setCell] using h.size, fun b hb q => (Below.heap_setCell _ _ _ _ (by show b ≠ k; omega)).trans (h.out b hb q), fun b c S q1 q2 q3 => ?_⟩
  obtain ⟨c', e, r1, r2, r3⟩ := h.inn b c S q1 q2 q3
  by_cases e2 : b = k
  · subst e2
    rw [h0] at q3
    cases q3
    exact ⟨_, heap_setCell_same _ _ j _ _ v e, by simpa using r1, fun q => absurd q.symm n1, fun q => absurd q.symm n2⟩
  · exact ⟨c', (Below.heap_setCell _ _ _ _ e2).trans e, r1, r2, r3⟩
theorem Iv.sets {k : Nat} {cur : Array Value} {T : TypeId} (h1 : lo ≤ k) (h2 : k < hi) (h0 : U0.heap[k]? = some (.cells cur T (0, 0))) (n1 : 51 ≠ T) (n2 : 44 ≠ T) : ∀ (vs : List Value) (o : Nat) (U : World), Iv U0 lo hi i U → Iv U0 lo hi i (U.setCells k o vs)
  | [], _, _, h => h
  | v :: vs, o, U, h => Iv.sets h1 h2 h0 n1 n2 vs (o + 1) _ (h.set h1 h2 h0 n1 n2 o v)
theorem Iv.setF {k j : Nat} {cur : Array Value} (h : Iv U0 lo hi i U) (h1 : lo ≤ k) (h2 : k < hi) (h0 : U0.heap[k]? = some (.cells cur 44 (0, 0))) (hj : j < (i + 1) * 8) (v : Value) : Iv U0 lo hi (i + 1) (U.setCell ⟨k, j, none⟩ v) := by
  refine ⟨h.os, h.tape, h.output, by simpa [World.setCell] using h.size, fun b hb q => (Below.heap_setCell _ _ _ _ (by show b ≠ k; omega)).trans (h.out b hb q), fun b c S q1 q2 q3 => ?_⟩
  obtain ⟨c', e, r1, r2, r3⟩ := h.inn b c S q1 q2 q3
  by_cases e2 : b = k
  · subst e2
    rw [h0] at q3
    cases q3
    refine ⟨_, heap_setCell_same _ _ j _ _ v e, by simpa using r1, fun q => absurd q.symm ty_ne.2.2.2.2.1, fun q j' hj' => ?_⟩
    rw [Array.getElem?_setIfInBounds_ne (by omega)]
    exact r3 rfl j' (by omega)
  · exact ⟨c', (Below.heap_setCell _ _ _ _ e2).trans e, r1, r2, fun q j' hj' => r3 q j' (by omega)⟩
/-- A cell of a row that was stored into is there, and not frozen. -/
theorem Iv.there {k : Nat} {cur : Array Value} {T : TypeId} (h : Iv U0 lo hi i U) (h1 : lo ≤ k) (h2 : k < hi) (h0 : U0.heap[k]? = some (.cells cur T (0, 0))) (j : Nat) (hj : j < cur.size) : (∃ v, U.cell? ⟨k, j, none⟩ = some v) ∧ U.frozen? ⟨k, j, none⟩ = false := by
  obtain ⟨c', e, r1, r2, r3⟩ := h.inn k cur T h1 h2 h0
  refine ⟨⟨c'[j]'(by omega), ?_⟩, by simp [World.frozen?, e]⟩
  simp [World.cell?, e, Array.getElem?_eq_getElem (show j < c'.size by omega)]
theorem Iv.cellF {k : Nat} {cur : Array Value} (h : Iv U0 lo hi i U) (h1 : lo ≤ k) (h2 : k < hi) (h0 : U0.heap[k]? = some (.cells cur 44 (0, 0))) (j : Nat) (hj : i * 8 ≤ j) : U.cell? ⟨k, j, none⟩ = U0.cell? ⟨k, j, none⟩ := by
  obtain ⟨c', e, r1, r2, r3⟩ := h.inn k cur _ h1 h2 h0
  simp only [World.cell?, e, h0]
  exact r3 rfl j hj
theorem Iv.cellJ {k : Nat} {cur : Array Value} (h : Iv U0 lo hi i U) (h1 : lo ≤ k) (h2 : k < hi) (h0 : U0.heap[k]? = some (.cells cur 51 (0, 0))) (j : Nat) : U.cell? ⟨k, j, none⟩ = U0.cell? ⟨k, j, none⟩ := by
  obtain ⟨c', e, r1, r2, r3⟩ := h.inn k cur _ h1 h2 h0
  cases r2 rfl
  exact World.cell?_of_block (e.trans h0.symm)
theorem Iv.old (h : Iv U0 lo hi i U) (h1 : lo ≤ U0.heap.size) : Below lo U0 U := ⟨h.os, h.tape, h.output, h.size, fun k hk => h.out k (by omega) (.inl hk)⟩
end
/-- A row of codes at one of them. -/
theorem flat_row {S : Nat → Prop} {w : World} {x : Option Addr} {c : Nat} {l : List FlR} (h : RwT 44 8 (FlTP S w) S w x c l) (i : Nat) (hi : i < l.length) :
    ∃ g cur f xo co xl cl, x = some ⟨g, 0, none⟩ ∧ S g ∧ w.heap[g]? = some (.cells cur 44 (0, 0)) ∧ (i + 1) * 8 ≤ cur.size ∧ w.cell? ⟨g, i * 8 + 6, none⟩ = some (.slice xo f.os.length co) ∧ w.cell? ⟨g, i * 8 + 7, none⟩ = some (.slice xl f.ls.length cl) ∧ FlT S w f xo co xl cl := by
  rcases h.2 with ⟨_, _, q⟩ | ⟨g, cur, e, hg, hb, h1, h2, h3⟩
  · omega
  subst e
  obtain ⟨f, vs, hf, hs, ⟨xo, co, xl, cl, ev, hq⟩, hc⟩ := h.1.el i hi
  refine ⟨g, cur, f, xo, co, xl, cl, rfl, hg, hb, by rw [h3]; exact Nat.mul_le_mul_right _ (by omega), ?_, ?_, hq⟩
  · have q := hc 6 (.slice xo f.os.length co) (by rw [ev]; rfl)
    rw [ad_off, add_kb] at q
    rw [← q]
    simp
  · have q := hc 7 (.slice xl f.ls.length cl) (by rw [ev]; rfl)
    rw [ad_off, add_kb] at q
    rw [← q]
    simp
/-- A row of jobs at one of them. -/
theorem job_row {S : Nat → Prop} {w : World} {x : Option Addr} {c : Nat} {l : List JbR} (h : RwT 51 7 (JbTP S w) S w x c l) (i : Nat) (hi : i < l.length) :
    ∃ g cur f xo co xl cl, x = some ⟨g, 0, none⟩ ∧ S g ∧ w.heap[g]? = some (.cells cur 51 (0, 0)) ∧ w.cell? ⟨g, i * 7 + 4, none⟩ = some (.slice xo f.cs.length co) ∧ JbT S w f xo co xl cl := by
  rcases h.2 with ⟨_, _, q⟩ | ⟨g, cur, e, hg, hb, h1, h2, h3⟩
  · omega
  subst e
  obtain ⟨f, vs, hf, hs, ⟨xo, co, xl, cl, ev, hq⟩, hc⟩ := h.1.el i hi
  refine ⟨g, cur, f, xo, co, xl, cl, rfl, hg, hb, ?_, hq⟩
  · have q := hc 4 (.slice xo f.cs.length co) (by rw [ev]; rfl)
    rw [ad_off, add_kb] at q
    rw [← q]
    simp
/-- A row's block at one of its records. -/
theorem own_row {α : Type} {T : TypeId} {n c : Nat} {P : α → List Value → Prop} {S : Nat → Prop} {w : World} {x : Option Addr} {l : List α} (h : RwT T n P S w x c l) (i : Nat) (hi : i < l.length) :
    ∃ g cur, x = some ⟨g, 0, none⟩ ∧ S g ∧ w.heap[g]? = some (.cells cur T (0, 0)) ∧ (i + 1) * n ≤ cur.size := by
  rcases h.2 with ⟨_, _, q⟩ | ⟨g, cur, e, hg, hb, h1, h2, h3⟩
  · omega
  exact ⟨g, cur, e, hg, hb, by rw [h3]; exact Nat.mul_le_mul_right _ (by omega)⟩
end Go.Proofs.YtdcjngakmkgbmaaGreat.Ty
