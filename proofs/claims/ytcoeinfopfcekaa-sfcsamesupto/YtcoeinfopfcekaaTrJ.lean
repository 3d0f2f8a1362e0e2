/- Expressions copied; no statement of the seat is proved here. -/
import Derived.Test.YtcoeinfopfcekaaTrI
import Derived.Test.YtcoeinfopfcekaaTrE
namespace Go.Proofs.Ytcoeinfopfcekaa
set_option linter.unusedVariables false
open Go.RowKit
def CpL (d : Nat) : Prop := ∀ (w : World) (x : Option Addr) (l : List Ex) (c : Nat), KdAt d w x l → Calls Try.prog 26 #[.slice x l.length c] w fun r w' => (∃ y c', r = .returned (.slice y l.length c') ∧ KdF (Fresh w.heap.size w'.heap.size) d w' y l) ∧ Below w.heap.size w w'
def CpX (d : Nat) : Prop := ∀ (w : World) (v : Value) (e : Ex), EvOk d w v e → Calls Try.prog 10 #[v] w fun r w' => (∃ v', r = .returned v' ∧ EvF (Fresh w.heap.size w'.heap.size) d w' v' e) ∧ Below w.heap.size w w'
/-- An expression in its box. -/
abbrev XO (h : EH) (k n : Value) : Obj := .cells #[.int .i64 h.op, .int .i64 h.pl, .string h.nm, .string h.fd, .int .u8 h.vk, .int .u64 h.vb, .string h.vs, k, n, .int .u8 h.kd, .int .i64 h.ar, .int .i64 h.rf, .int .i64 h.fr, .int .i64 h.up] 42 (0, 0)
abbrev XZ : Obj := .cells #[.int .i64 0, .int .i64 0, .string ⟨#[]⟩, .string ⟨#[]⟩, .int .u8 0, .int .u64 0, .string ⟨#[]⟩, .slice none 0 0, .slice none 0 0, .int .u8 0, .int .i64 0, .int .i64 0, .int .i64 0, .int .i64 0] 42 (0, 0)
theorem ex_info : (Try.prog.info? 42).map (·.size) = some 14 := by kernel_rfl
theorem XO_set7 {w : World} {p : Nat} {h : EH} {k n : Value} (a : w.heap[p]? = some (XO h k n)) (v : Value) : (w.setCell ⟨p, 7, none⟩ v).heap[p]? = some (XO h v n) := by
  simp [World.setCell, Array.getElem?_modify, a]
theorem XO_set8 {w : World} {p : Nat} {h : EH} {k n : Value} (a : w.heap[p]? = some (XO h k n)) (v : Value) : (w.setCell ⟨p, 8, none⟩ v).heap[p]? = some (XO h k v) := by
  simp [World.setCell, Array.getElem?_modify, a]
set_option maxRecDepth 20000 in
set_option maxHeartbeats 4000000 in
theorem cpX_of (d : Nat) (L : CpL d) : CpX d := by
  intro w v e hv
  cases e with
  | mk h ns l =>
    obtain ⟨x, c, y, c', rfl, hn, f1, hk⟩ := hv
    have HL : Hid (CpL d) := L
    have HN : Hid (NmAt w y ns) := hn
    have HK : Hid (KdAt d w x l) := hk
    have HF : Hid (few ns.length) := f1
    clear L hn hk f1
    generalize en : ns.length = m at *
    generalize el : l.length = n at *
    have EN : Hid (ns.length = m) := en
    have EL : Hid (l.length = n) := el
    clear en el
    have HL2 : Hid (∀ W, Below w.heap.size w W → Calls Try.prog 26 #[.slice x n c] W fun r w' => (∃ y c', r = .returned (.slice y n c') ∧ KdF (Fresh W.heap.size w'.heap.size) d w' y l) ∧ Below W.heap.size W w') := fun W hb => by
      have := HL.out W x l c (HK.out.below hb)
      rwa [EL.out] at this
    have HC2 : Hid (∀ W, Below w.heap.size w W → Calls Try.prog 9 #[.slice y m c'] W fun r w' => (∃ y c', r = .returned (.slice y m c') ∧ NmF (Fresh W.heap.size w'.heap.size) w' y ns) ∧ Below W.heap.size W w') := fun W hb => by
      have := CloneF y ns c' W (HN.out.below hb) (by rw [EN.out]; exact HF.out)
      rwa [EN.out] at this
    obtain ⟨W0, e0⟩ : ∃ W0, W0 = (w.alloc (.cells #[.int .i64 h.op, .int .i64 h.pl, .string h.nm, .string h.fd, .int .u8 h.vk, .int .u64 h.vb, .string h.vs, .slice x n c, .slice y m c', .int .u8 h.kd, .int .i64 h.ar, .int .i64 h.rf, .int .i64 h.fr, .int .i64 h.up] 42)).alloc (.cells #[.int .i64 0, .int .i64 0, .string ⟨#[]⟩, .string ⟨#[]⟩, .int .u8 0, .int .u64 0, .string ⟨#[]⟩, .slice none 0 0, .slice none 0 0, .int .u8 0, .int .i64 0, .int .i64 0, .int .i64 0, .int .i64 0] 42) := ⟨_, rfl⟩
    have B0 : Hid (Below w.heap.size w W0) := by rw [e0]; exact ((Below.refl _ _).alloc (Nat.le_refl _) _).alloc (by simp) _
    have S0 : W0.heap.size = w.heap.size + 2 := by rw [e0]; simp
    have X0 : Hid (W0.heap[w.heap.size]? = some (XO h (.slice x n c) (.slice y m c'))) := by rw [e0]; exact (Below.heap_alloc _ _ _ (by simp)).trans (heap_alloc_last _ _)
    have Z0 : Hid (W0.heap[w.heap.size + 1]? = some XZ) := by rw [e0]; have := (heap_alloc_last (w.alloc (.cells #[.int .i64 h.op, .int .i64 h.pl, .string h.nm, .string h.fd, .int .u8 h.vk, .int .u64 h.vb, .string h.vs, .slice x n c, .slice y m c', .int .u8 h.kd, .int .i64 h.ar, .int .i64 h.rf, .int .i64 h.fr, .int .i64 h.up] 42)) XZ); rwa [show (w.alloc (.cells #[.int .i64 h.op, .int .i64 h.pl, .string h.nm, .string h.fd, .int .u8 h.vk, .int .u64 h.vb, .string h.vs, .slice x n c, .slice y m c', .int .u8 h.kd, .int .i64 h.ar, .int .i64 h.rf, .int .i64 h.fr, .int .i64 h.up] 42)).heap.size = w.heap.size + 1 by simp] at this
    go_enter Try.func10, Try.ntmps10
    go_wp2_with fail
    rw [← e0]
    refine (HL2.out _ B0.out).mono ?_
    rintro r w1 ⟨⟨y1, c1, rfl, hk1⟩, hb1⟩
    have K1 : Hid (KdF (Fresh W0.heap.size w1.heap.size) d w1 y1 l) := hk1
    have B1 : Hid (Below W0.heap.size W0 w1) := hb1
    have s1 : w.heap.size + 2 ≤ w1.heap.size := by have := hb1.size; omega
    have X1 : Hid (w1.heap[w.heap.size]? = some (XO h (.slice x n c) (.slice y m c'))) := (hb1.block _ (by omega)).trans X0.out
    have Z1 : Hid (w1.heap[w.heap.size + 1]? = some XZ) := (hb1.block _ (by omega)).trans Z0.out
    have a7 : w1.cell? ⟨w.heap.size, 7, none⟩ = some (.slice x n c) := by simp [World.cell?, X1.out]
    have a8 : w1.cell? ⟨w.heap.size, 8, none⟩ = some (.slice y m c') := by simp [World.cell?, X1.out]
    have fz7 : w1.frozen? ⟨w.heap.size, 7, none⟩ = false := by simp [World.frozen?, X1.out]
    clear hk1 hb1
    go_wp2_with fail
    obtain ⟨W1, e1⟩ : ∃ W1, W1 = w1.setCell ⟨w.heap.size, 7, none⟩ (.slice y1 n c1) := ⟨_, rfl⟩
    rw [← e1]
    have S1 : W1.heap.size = w1.heap.size := by rw [e1]; simp
    have BB : Hid (Below w.heap.size w W1) := by rw [e1]; exact (B0.out.trans (B1.out.mono (by omega))).setCell (Nat.le_refl _) _
    have X1' : Hid (W1.heap[w.heap.size]? = some (XO h (.slice y1 n c1) (.slice y m c'))) := by rw [e1]; exact XO_set7 X1.out _
    have Z1' : Hid (W1.heap[w.heap.size + 1]? = some XZ) := by rw [e1]; exact (Below.heap_setCell _ _ _ _ (by simp)).trans Z1.out
    have K1' : Hid (KdF (Fresh W0.heap.size w1.heap.size) d W1 y1 l) := K1.out.fr (fun q hq => by rw [e1]; exact World.cell?_of_block (Below.heap_setCell _ _ _ _ (by have := hq.1; simp; omega)))
    refine (HC2.out _ BB.out).mono ?_
    rintro r w2 ⟨⟨y2, c2, rfl, hn2⟩, hb2⟩
    have N2 : Hid (NmF (Fresh W1.heap.size w2.heap.size) w2 y2 ns) := hn2
    have B2 : Hid (Below w.heap.size w w2) := BB.out.trans (hb2.mono (by omega))
    have K2 : Hid (KdF (Fresh W0.heap.size w1.heap.size) d w2 y1 l) := K1'.out.fr (fresh_fr hb2 (by omega))
    have s2 : w1.heap.size ≤ w2.heap.size := by have := hb2.size; omega
    have X2 : Hid (w2.heap[w.heap.size]? = some (XO h (.slice y1 n c1) (.slice y m c'))) := (hb2.block _ (by omega)).trans X1'.out
    have Z2 : Hid (w2.heap[w.heap.size + 1]? = some XZ) := (hb2.block _ (by omega)).trans Z1'.out
    clear hn2 hb2
    have b0 : w2.cell? ⟨w.heap.size, 0, none⟩ = some (.int .i64 h.op) := by simp [World.cell?, X2.out]
    have b1 : w2.cell? ⟨w.heap.size, 1, none⟩ = some (.int .i64 h.pl) := by simp [World.cell?, X2.out]
    have b2 : w2.cell? ⟨w.heap.size, 2, none⟩ = some (.string h.nm) := by simp [World.cell?, X2.out]
    have b3 : w2.cell? ⟨w.heap.size, 3, none⟩ = some (.string h.fd) := by simp [World.cell?, X2.out]
    have b4 : w2.cell? ⟨w.heap.size, 4, none⟩ = some (.int .u8 h.vk) := by simp [World.cell?, X2.out]
    have b5 : w2.cell? ⟨w.heap.size, 5, none⟩ = some (.int .u64 h.vb) := by simp [World.cell?, X2.out]
    have b6 : w2.cell? ⟨w.heap.size, 6, none⟩ = some (.string h.vs) := by simp [World.cell?, X2.out]
    have b7 : w2.cell? ⟨w.heap.size, 7, none⟩ = some (.slice y1 n c1) := by simp [World.cell?, X2.out]
    have b8 : w2.cell? ⟨w.heap.size, 8, none⟩ = some (.slice y m c') := by simp [World.cell?, X2.out]
    have b9 : w2.cell? ⟨w.heap.size, 9, none⟩ = some (.int .u8 h.kd) := by simp [World.cell?, X2.out]
    have b10 : w2.cell? ⟨w.heap.size, 10, none⟩ = some (.int .i64 h.ar) := by simp [World.cell?, X2.out]
    have b11 : w2.cell? ⟨w.heap.size, 11, none⟩ = some (.int .i64 h.rf) := by simp [World.cell?, X2.out]
    have b12 : w2.cell? ⟨w.heap.size, 12, none⟩ = some (.int .i64 h.fr) := by simp [World.cell?, X2.out]
    have b13 : w2.cell? ⟨w.heap.size, 13, none⟩ = some (.int .i64 h.up) := by simp [World.cell?, X2.out]
    have fz8 : w2.frozen? ⟨w.heap.size, 8, none⟩ = false := by simp [World.frozen?, X2.out]
    have Z3 : Hid (∀ v, (w2.setCell ⟨w.heap.size, 8, none⟩ v).heap[w.heap.size + 1]? = some XZ) := fun v => (Below.heap_setCell _ _ _ _ (by simp)).trans Z2.out
    go_wp2_with (refine wpList_store_row rfl 42 _ _ rfl (w.heap.size + 1) _ rfl rfl _ _ (Z3.out _) ex_info rfl (by kernel_rfl) ?_)
    obtain ⟨W3, e3⟩ : ∃ W3, W3 = (w2.setCell ⟨w.heap.size, 8, none⟩ (.slice y2 m c2)).setRow (w.heap.size + 1) #[.int .i64 h.op, .int .i64 h.pl, .string h.nm, .string h.fd, .int .u8 h.vk, .int .u64 h.vb, .string h.vs, .slice y1 n c1, .slice y2 m c2, .int .u8 h.kd, .int .i64 h.ar, .int .i64 h.rf, .int .i64 h.fr, .int .i64 h.up] := ⟨_, rfl⟩
    rw [← e3]
    have hz : W3.heap[w.heap.size + 1]? = some (XO h (.slice y1 n c1) (.slice y2 m c2)) := by rw [e3]; exact setRow_heap _ _ _ _ _ _ (Z3.out _)
    have sz : W3.heap.size = w2.heap.size := by rw [e3]; simp [World.setRow, World.setCell]
    have hw : ∀ k, w.heap.size + 2 ≤ k → W3.heap[k]? = w2.heap[k]? := fun k hk => by rw [e3]; exact (setRow_other _ _ _ _ (by omega)).trans (Below.heap_setCell _ _ _ _ (by simp; omega))
    have hl : Below w.heap.size w W3 := B2.out.trans ⟨by rw [e3]; rfl, by rw [e3]; rfl, by rw [e3]; rfl, by omega, fun k hk => by rw [e3]; exact (setRow_other _ _ _ _ (by omega)).trans (Below.heap_setCell _ _ _ _ (by simp; omega))⟩
    have fr : ∀ a b, w.heap.size + 2 ≤ a → FrS (Fresh a b) w2 W3 := fun a b ha q hq => World.cell?_of_block (hw _ (by have := hq.1; omega))
    refine bodyPost_ret (v := EV h (.slice y1 n c1) (.slice y2 m c2)) (results_cell_row Try.results10 _ _ (w.heap.size + 1) _ _ (0, 0) _ (by simp [Act.put]) hz Try.underlying42 rfl ex_info) rfl ?_
    refine ⟨⟨_, rfl, y1, c1, y2, c2, by rw [EN.out, EL.out], ?_, by rw [EN.out]; exact HF.out, ?_⟩, hl⟩
    · exact ⟨(N2.out.fr (fr _ _ (by omega))).1, fun a e i s q => by have := N2.out.2 a e i s q; exact ⟨by have := this.1; omega, by have := this.2; omega⟩⟩
    · exact (K2.out.fr (fr _ _ (by omega))).sub (fun b hb => ⟨by have := hb.1; omega, by have := hb.2; omega⟩)
end Go.Proofs.Ytcoeinfopfcekaa
