/- A chart copied; no statement of the seat is proved here. -/
import Derived.Test.YtcoeinfopfcekaaSfJ0
import Derived.Test.YtcoeinfopfcekaaSfF
import Derived.Test.YtcoeinfopfcekaaTrM
import Derived.Test.YtcoeinfopfcekaaTrX
import Derived.Test.YtcoeinfopfcekaaRgJ
import Derived.Deep.MidRow
namespace Go.Proofs.Ytcoeinfopfcekaa
set_option linter.unusedVariables false
set_option linter.unusedSimpArgs false
open Go.RowKit
theorem infoSp : ∃ i z, Try.prog.info? 31 = some i ∧ i.zero = some z ∧ i.size = 4 ∧ i.bytes = 56 ∧ z.cells.size = 4 := by
  obtain ⟨i, hi, hz⟩ := Option.map_eq_some_iff.1 (show (Try.prog.info? 31).map (fun i => (i.zero.map (·.cells.size), i.size, i.bytes)) = some (some 4, 4, 56) by kernel_rfl)
  simp only [Prod.mk.injEq] at hz
  obtain ⟨z, h1, h2⟩ := Option.map_eq_some_iff.1 hz.1
  exact ⟨i, z, hi, h1, hz.2.1, hz.2.2, h2⟩
theorem infoTn : ∃ i z, Try.prog.info? 44 = some i ∧ i.zero = some z ∧ i.size = 18 ∧ i.bytes = 240 ∧ z.cells.size = 18 := by
  obtain ⟨i, hi, hz⟩ := Option.map_eq_some_iff.1 (show (Try.prog.info? 44).map (fun i => (i.zero.map (·.cells.size), i.size, i.bytes)) = some (some 18, 18, 240) by kernel_rfl)
  simp only [Prod.mk.injEq] at hz
  obtain ⟨z, h1, h2⟩ := Option.map_eq_some_iff.1 hz.1
  exact ⟨i, z, hi, h1, hz.2.1, hz.2.2, h2⟩
theorem infoAc : ∃ i z, Try.prog.info? 49 = some i ∧ i.zero = some z ∧ i.size = 3 ∧ i.bytes = 48 ∧ z.cells.size = 3 := by
  obtain ⟨i, hi, hz⟩ := Option.map_eq_some_iff.1 (show (Try.prog.info? 49).map (fun i => (i.zero.map (·.cells.size), i.size, i.bytes)) = some (some 3, 3, 48) by kernel_rfl)
  simp only [Prod.mk.injEq] at hz
  obtain ⟨z, h1, h2⟩ := Option.map_eq_some_iff.1 hz.1
  exact ⟨i, z, hi, h1, hz.2.1, hz.2.2, h2⟩
theorem ch_info : (Try.prog.info? 26).map (·.size) = some 3 := by kernel_rfl
/-- Made so far, and a box of the call's own ahead of them is stored into. -/
theorem MkI.put {α : Type} {T : TypeId} {n base k : Nat} {P : (Nat → Prop) → World → α → List Value → Prop} (K : Kept P) {l : List α} {out : Value} {V : World} (h : MkI T n P base l k out V) {g : Nat} (hg : g < base) (j : Nat) (v : Value) : MkI T n P base l k out (V.setCell ⟨g, j, none⟩ v) := by
  obtain ⟨vss, e1, e2, e3, e4⟩ := h
  have ow : ∀ b, out.ownBlock = some b → b ≠ g := fun b hb => by have := (e3.lt b hb).1; omega
  have sz : (V.setCell ⟨g, j, none⟩ v).heap.size = V.heap.size := by simp [World.setCell]
  refine ⟨vss, e1, e2, e3.kept (w' := V.setCell ⟨g, j, none⟩ v) (row := some g) ⟨rfl, rfl, rfl, by rw [sz]; exact Nat.le_refl _, fun q _ hq => Below.heap_setCell _ _ _ _ (by show q ≠ g; exact fun e => hq (by rw [e]))⟩ (Or.inr fun e => ow g e rfl), fun i vs e hi he => ?_⟩
  rw [sz]
  refine K.fr (e4 i vs e hi he) fun q hq => World.cell?_of_block (Below.heap_setCell _ _ _ _ ?_)
  show q.block ≠ g
  have := hq.1.1
  omega
theorem up_s {a b a2 b2 : Nat} (h1 : a2 ≤ a) (h2 : b ≤ b2) : ∀ k, Fresh a b k → Fresh a2 b2 k := fun k h => ⟨Nat.le_trans h1 h.1, Nat.lt_of_lt_of_le h.2 h2⟩
theorem mk_cellsC (w : World) (vs : List Value) (T : TypeId) : ∀ j u, vs[j]? = some u → (w.alloc (.cells vs.toArray T)).cell? ((⟨w.heap.size, 0, none⟩ : Addr).add j) = some u := fun j u h => by
  rw [Addr.add_mid, Nat.zero_add, cell_of_row _ _ j vs.toArray T (0, 0) (heap_alloc_last w _)]
  simpa using h
/-- Where the copy stands. -/
structure Cy (w : World) (gx : Nat) (x1 x2 x3 : Option Addr) (n1 n2 n3 c1 c2 c3 : Nat) (v1 v2 v3 : Value) (V : World) : Prop where
  b : Below w.heap.size w V
  bx : V.heap[gx]? = some (.cells #[.slice x1 n1 c1, .slice x2 n2 c2, .slice x3 n3 c3] 26 (0, 0))
  rx : V.heap[gx + 1]? = some (.cells #[.slice none 0 0, .slice none 0 0, .slice none 0 0] 26 (0, 0))
  ox : V.heap[gx + 2]? = some (.cells #[v1, v2, v3] 26 (0, 0))
section
variable {w : World} {gx : Nat} {x1 x2 x3 : Option Addr} {n1 n2 n3 c1 c2 c3 : Nat} {v1 v2 v3 : Value} {V V' : World}
theorem Cy.on (h : Cy w gx x1 x2 x3 n1 n2 n3 c1 c2 c3 v1 v2 v3 V) (k : Below V.heap.size V V') : Cy w gx x1 x2 x3 n1 n2 n3 c1 c2 c3 v1 v2 v3 V' :=
  ⟨h.b.trans (k.mono h.b.size), (k.block _ (blk_in2' h.bx)).trans h.bx, (k.block _ (blk_in2' h.rx)).trans h.rx, (k.block _ (blk_in2' h.ox)).trans h.ox⟩
theorem Cy.grown (h : Cy w gx x1 x2 x3 n1 n2 n3 c1 c2 c3 v1 v2 v3 V) {r : Option Nat} (k : V.grownBy V' r) (hr : ∀ g, r = some g → gx + 3 ≤ g) (hw : w.heap.size ≤ gx) : Cy w gx x1 x2 x3 n1 n2 n3 c1 c2 c3 v1 v2 v3 V' :=
  ⟨⟨k.os.trans h.b.os, k.tape.trans h.b.tape, k.output.trans h.b.output, Nat.le_trans h.b.size k.size, fun i hi => (k.block i (Nat.lt_of_lt_of_le hi h.b.size) (fun e => by have := hr i e.symm; omega)).trans (h.b.block i hi)⟩,
    (k.block _ (blk_in2' h.bx) (fun e => by have := hr _ e.symm; omega)).trans h.bx, (k.block _ (blk_in2' h.rx) (fun e => by have := hr _ e.symm; omega)).trans h.rx, (k.block _ (blk_in2' h.ox) (fun e => by have := hr _ e.symm; omega)).trans h.ox⟩
theorem Cy.far (h : Cy w gx x1 x2 x3 n1 n2 n3 c1 c2 c3 v1 v2 v3 V) {g : Nat} (hg : gx + 3 ≤ g) (hw : w.heap.size ≤ gx) (j : Nat) (v : Value) : Cy w gx x1 x2 x3 n1 n2 n3 c1 c2 c3 v1 v2 v3 (V.setCell ⟨g, j, none⟩ v) :=
  h.grown (r := some g) (V' := V.setCell ⟨g, j, none⟩ v) ⟨rfl, rfl, rfl, by simp [World.setCell], fun q _ hq => Below.heap_setCell _ _ _ _ (by show q ≠ g; exact fun e => hq (by rw [e]))⟩ (fun q e => by cases e; exact hg) hw
theorem Cy.put (h : Cy w gx x1 x2 x3 n1 n2 n3 c1 c2 c3 v1 v2 v3 V) (hw : w.heap.size ≤ gx) (j : Nat) (v : Value) {u1 u2 u3 : Value} (e : (#[v1, v2, v3] : Array Value).setIfInBounds j v = #[u1, u2, u3]) : Cy w gx x1 x2 x3 n1 n2 n3 c1 c2 c3 u1 u2 u3 (V.setCell ⟨gx + 2, j, none⟩ v) :=
  ⟨h.b.trans ⟨rfl, rfl, rfl, by simp [World.setCell], fun q hq => Below.heap_setCell _ _ _ _ (by show q ≠ gx + 2; omega)⟩, (Below.heap_setCell _ _ _ _ (by show gx ≠ gx + 2; omega)).trans h.bx, (Below.heap_setCell _ _ _ _ (by show gx + 1 ≠ gx + 2; omega)).trans h.rx, by rw [← e]; exact heap_setCell_same _ _ j _ _ v h.ox⟩
end
theorem ow_form {w : World} {base : Nat} {e : TypeId} {size : Nat} {v : Value} {n : Nat} {xs : List Value} (h : w.ownsRow base e size v n xs) : ∃ x k c, v = .slice x k c := by
  rcases h.2 with ⟨q, _⟩ | ⟨g, cap, cur, q, _⟩
  · exact ⟨_, _, _, q⟩
  · exact ⟨_, _, _, q⟩
theorem there_row {V : World} {g : Nat} {cs : Array Value} {T : TypeId} (h : V.heap[g]? = some (.cells cs T (0, 0))) (o n : Nat) (hn : o + n ≤ cs.size) : V.there g o n := fun j hj => ⟨by simp [World.cell?, h, Array.getElem?_eq_getElem (show o + j < cs.size by omega)], by simp [World.frozen?, h]⟩
theorem gr_cells (V : World) (g o : Nat) (vs : List Value) : V.grownBy (V.setCells g o vs) (some g) := by
  induction vs generalizing V o with
  | nil => exact ⟨rfl, rfl, rfl, Nat.le_refl _, fun _ _ _ => rfl⟩
  | cons v r ih =>
    have a : V.grownBy (V.setCell ⟨g, o, none⟩ v) (some g) := ⟨rfl, rfl, rfl, by simp [World.setCell], fun q _ hq => Below.heap_setCell _ _ _ _ (by show q ≠ g; exact fun e => hq (by rw [e]))⟩
    exact a.trans (ih _ (o + 1))
theorem cs_mid {V : World} {g : Nat} {cs : Array Value} {T : TypeId} (h : V.heap[g]? = some (.cells cs T (0, 0))) {l1 l2 : List Value} (e1 : cs.toList.take l1.length = l1) (e2 : cs.size = l1.length + l2.length) : CsAt (V.setCells g l1.length l2) ⟨g, 0, none⟩ (l1 ++ l2) := fun j v hv => by
  rw [Addr.add_mid, Nat.zero_add]
  by_cases hj : j < l1.length
  · rw [List.getElem?_append_left hj] at hv
    rw [World.cell?_setCells_out _ _ _ _ _ (fun _ _ => Or.inl hj), cell_of_row V g j cs T (0, 0) h]
    rw [← e1, List.getElem?_take, if_pos hj] at hv
    rw [← hv]
    simp
  · rw [List.getElem?_append_right (by omega)] at hv
    have hl : j - l1.length < l2.length := (List.getElem?_eq_some_iff.1 hv).1
    have q := World.cell?_setCells_in g l2 l1.length V (fun i hi => by rw [cell_of_row V g _ cs T (0, 0) h]; simp [Array.getElem?_eq_getElem (show l1.length + i < cs.size by omega)]) (j - l1.length) hl
    rw [show l1.length + (j - l1.length) = j by omega] at q
    rw [q, ← (List.getElem?_eq_some_iff.1 hv).2]
theorem cells3 {V : World} {g : Nat} {a b c : Value} {T : TypeId} {f : Nat × Nat} (h : V.heap[g]? = some (.cells #[a, b, c] T f)) : V.cell? ⟨g, 0, none⟩ = some a ∧ V.cell? ⟨g, 1, none⟩ = some b ∧ V.cell? ⟨g, 2, none⟩ = some c := ⟨by simp [World.cell?, h], by simp [World.cell?, h], by simp [World.cell?, h]⟩
theorem cells4c {V : World} {g : Nat} {a b c d : Value} {T : TypeId} {f : Nat × Nat} (h : V.heap[g]? = some (.cells #[a, b, c, d] T f)) : V.cell? ⟨g, 0, none⟩ = some a ∧ V.cell? ⟨g, 1, none⟩ = some b ∧ V.cell? ⟨g, 2, none⟩ = some c ∧ V.cell? ⟨g, 3, none⟩ = some d := ⟨by simp [World.cell?, h], by simp [World.cell?, h], by simp [World.cell?, h], by simp [World.cell?, h]⟩
theorem frz {V : World} {g j : Nat} {cs : Array Value} {T : TypeId} (h : V.heap[g]? = some (.cells cs T (0, 0))) : V.frozen? ⟨g, j, none⟩ = false := by simp [World.frozen?, h]
set_option maxRecDepth 20000 in
set_option maxHeartbeats 16000000 in
theorem Chart_of (d : Nat) (m : ChR) (x1 x2 x3 : Option Addr) (c1 c2 c3 : Nat) (w : World) (ha : ChQ (fun b => b < w.heap.size) d w m x1 x2 x3) :
    Calls Try.prog 4 #[.agg #[.slice x1 m.ss.length c1, .slice x2 m.ts.length c2, .slice x3 m.ac.length c3]] w fun e w' => (∃ y1 c1 y2 c2 y3 c3, e = .returned (.agg #[.slice y1 m.ss.length c1, .slice y2 m.ts.length c2, .slice y3 m.ac.length c3]) ∧ ChQ (Fresh w.heap.size w'.heap.size) d w' m y1 y2 y3) ∧ Below w.heap.size w w' := by
  have HA : Hid (ChQ (fun b => b < w.heap.size) d w m x1 x2 x3) := ha
  have FW : Hid (few m.ss.length ∧ few m.ts.length ∧ few m.ac.length) := ⟨ha.1.1, ha.2.1.1, ha.2.2.1⟩
  clear ha
  obtain ⟨A0, e0⟩ : ∃ W, W = w.alloc (.cells #[.slice x1 m.ss.length c1, .slice x2 m.ts.length c2, .slice x3 m.ac.length c3] 26 (0, 0)) := ⟨_, rfl⟩
  obtain ⟨A1, e1⟩ : ∃ W, W = A0.alloc (.cells #[.slice none 0 0, .slice none 0 0, .slice none 0 0] 26 (0, 0)) := ⟨_, rfl⟩
  obtain ⟨A2, e2⟩ : ∃ W, W = A1.alloc (.cells #[.slice none 0 0, .slice none 0 0, .slice none 0 0] 26 (0, 0)) := ⟨_, rfl⟩
  obtain ⟨gx, egx⟩ : ∃ n, n = w.heap.size := ⟨_, rfl⟩
  have s0 : A0.heap.size = gx + 1 := by rw [e0, egx]; simp
  have s1 : A1.heap.size = gx + 2 := by rw [e1]; simp [s0]
  have s2 : A2.heap.size = gx + 3 := by rw [e2]; simp [s1]
  have HX : Hid (w.heap.size ≤ gx) := by show _ ≤ _; omega
  have C0 : Hid (Cy w gx x1 x2 x3 m.ss.length m.ts.length m.ac.length c1 c2 c3 (.slice none 0 0) (.slice none 0 0) (.slice none 0 0) A2) := by
    have h0 : A0.heap[gx]? = some (.cells #[.slice x1 m.ss.length c1, .slice x2 m.ts.length c2, .slice x3 m.ac.length c3] 26 (0, 0)) := by rw [e0, egx]; exact heap_alloc_last _ _
    have h1 : A1.heap[gx + 1]? = some (.cells #[.slice none 0 0, .slice none 0 0, .slice none 0 0] 26 (0, 0)) := by rw [e1, ← s0]; exact heap_alloc_last _ _
    have h2 : A2.heap[gx + 2]? = some (.cells #[.slice none 0 0, .slice none 0 0, .slice none 0 0] 26 (0, 0)) := by rw [e2, ← s1]; exact heap_alloc_last _ _
    have k0 : A1.heap[gx]? = A0.heap[gx]? := by rw [e1]; exact Below.heap_alloc _ _ _ (by omega)
    have k1 : A2.heap[gx]? = A1.heap[gx]? := by rw [e2]; exact Below.heap_alloc _ _ _ (by omega)
    have k2 : A2.heap[gx + 1]? = A1.heap[gx + 1]? := by rw [e2]; exact Below.heap_alloc _ _ _ (by omega)
    refine ⟨?_, k1.trans (k0.trans h0), k2.trans h1, h2⟩
    rw [e2, e1, e0]
    exact (((Below.refl _ _).alloc (Nat.le_refl _) _).alloc (by simp) _).alloc (by simp; omega) _
  have SZ : Hid (A2.heap.size = gx + 3) := s2
  have NB : Hid (gx + 3 ≤ gx + 3) := Nat.le_refl _
  go_enter Try.func4, Try.ntmps4
  have r3 : A2 = ((w.alloc (.cells #[.slice x1 m.ss.length c1, .slice x2 m.ts.length c2, .slice x3 m.ac.length c3] 26 (0, 0))).alloc (.cells #[.slice none 0 0, .slice none 0 0, .slice none 0 0] 26 (0, 0))).alloc (.cells #[.slice none 0 0, .slice none 0 0, .slice none 0 0] 26 (0, 0)) := by rw [e2, e1, e0]
  have r2 : w.heap.size + 1 + 1 = gx + 2 := by omega
  go_upto_region 2 with fail
  rw [← r3]
  try rw [r2]
  try rw [← egx]
  clear e0 e1 e2 egx s0 s1 s2 r2 r3
  obtain ⟨b0, b1, b2⟩ := cells3 C0.out.bx
  go_upto_region 3 with fail
  clear b0 b1 b2
  go_loopw [13] (fun i wr => ∃ (k : Nat) (u : Value), k ≤ m.ss.length ∧ i = .int .i64 k ∧ gx + 3 ≤ wr.heap.size ∧ Cy w gx x1 x2 x3 m.ss.length m.ts.length m.ac.length c1 c2 c3 (u) (.slice none 0 0) (.slice none 0 0) wr ∧ MkI 31 4 SpP (gx + 3) m.ss k u wr) (fun i _ => m.ss.length - (intOf i).toNat)
  case atStart => exact ⟨0, .slice none 0 0, Nat.zero_le _, rfl, by have := SZ.out; omega, C0.out, MkI.zero _ _ _ _ _ _⟩
  case round =>
    clear C0 SZ
    obtain ⟨k, u, hk, rfl, hz, hc, hm⟩ := hrel
    have CW : Hid (Cy w gx x1 x2 x3 m.ss.length m.ts.length m.ac.length c1 c2 c3 (u) (.slice none 0 0) (.slice none 0 0) wr) := hc
    have ZW : Hid (gx + 3 ≤ wr.heap.size) := hz
    have MI : Hid (MkI 31 4 SpP (gx + 3) m.ss k u wr) := hm
    clear hz hc hm
    by_cases hlt : k < m.ss.length
    · obtain ⟨a, rfl⟩ := HA.out.1.some (by omega)
      have hb2 : Below w.heap.size w wr := CW.out.b
      obtain ⟨s, sv, se, _, sp, sk⟩ := (rw_frK keptSp (w' := wr) HA.out.1 (old_fr hb2)).el k hlt
      have ES : Hid (m.ss[k]? = some s) := se
      have LT : Hid (k < m.ss.length) := hlt
      have kl : (k : Int) < m.ss.length := by omega
      obtain ⟨p, q, rfl, sq⟩ := sp
      have c0 := sk.c0
      have c1' := sk.cp 0 _ rfl
      have c2' := sk.cp 1 _ rfl
      have c3' := sk.cp 2 _ rfl
      have SQ : Hid (RwF 4 (Is lkC) (fun b => b < w.heap.size) wr p s.ls) := sq
      clear hlt se sk sq hb2 hk
      go_upto_region 4 with fail
      go_upto_region 5 with fail
      obtain ⟨W1, eV⟩ : ∃ V, V = wr.alloc (.cells #[.int .i64 s.pl, .string s.nm, .bool s.ini, .slice p s.ls.length q] 31 (0, 0)) := ⟨_, rfl⟩
      obtain ⟨gs, eg⟩ : ∃ n, n = wr.heap.size := ⟨_, rfl⟩
      try rw [← eV]
      try rw [← eg]
      have X1 : Hid (W1.heap[gs]? = some (.cells #[.int .i64 s.pl, .string s.nm, .bool s.ini, .slice p s.ls.length q] 31 (0, 0))) := by rw [eV, eg]; exact heap_alloc_last _ _
      have G1 : Hid (Below wr.heap.size wr W1) := by rw [eV]; exact (Below.refl _ _).alloc (Nat.le_refl _) _
      have GS : Hid (wr.heap.size ≤ gs ∧ gs < W1.heap.size) := ⟨by omega, blk_in2' X1.out⟩
      clear eV eg
      clear c0 c1' c2' c3'
      obtain ⟨i0, i1, i2, i3⟩ := cells4c X1.out
      go_wp2_with fail
      refine (CloneLk p s.ls q W1 (S := fun b => b < w.heap.size) (fun b h => Nat.lt_of_lt_of_le (Nat.lt_of_lt_of_le h CW.out.b.size) G1.out.size) (SQ.out.fr (fun q hq => G1.out.cell (Nat.lt_of_lt_of_le hq CW.out.b.size)))).mono ?_
      rintro e w2 ⟨⟨y, yc, rfl, hl⟩, hb⟩
      have X2 : Hid (w2.heap[gs]? = some (.cells #[.int .i64 s.pl, .string s.nm, .bool s.ini, .slice p s.ls.length q] 31 (0, 0))) := (hb.block _ (blk_in2' X1.out)).trans X1.out
      have G2 : Hid (Below wr.heap.size wr w2) := G1.out.trans (hb.mono G1.out.size)
      have HL : Hid (RwF 4 (Is lkC) (Fresh W1.heap.size w2.heap.size) w2 y s.ls) := hl
      clear hl hb i0 i1 i2 i3
      obtain ⟨i0, i1, i2, i3⟩ := cells4c X2.out
      have iz := frz (j := 3) X2.out
      go_upto_region 6 with fail
      obtain ⟨W3, eV⟩ : ∃ V, V = w2.setCell ⟨gs, 3, none⟩ (.slice y s.ls.length yc) := ⟨_, rfl⟩
      try rw [← eV]
      have X3 : Hid (W3.heap[gs]? = some (.cells #[.int .i64 s.pl, .string s.nm, .bool s.ini, .slice y s.ls.length yc] 31 (0, 0))) := by rw [eV]; exact heap_setCell_same _ gs 3 _ _ _ X2.out
      have B3 : Hid (Below wr.heap.size wr W3) := by rw [eV]; exact G2.out.setCell (p := ⟨gs, 3, none⟩) GS.out.1 _
      have H3 : Hid (RwF 4 (Is lkC) (Fresh wr.heap.size W3.heap.size) W3 y s.ls) := by
        have sz : W3.heap.size = w2.heap.size := by rw [eV]; simp [World.setCell]
        rw [sz]
        exact (HL.out.fr (w' := W3) (fun q hq => by rw [eV]; exact World.cell?_of_block (Below.heap_setCell _ _ _ _ (by show q.block ≠ gs; have := hq.1; have := GS.out.2; omega)))).sub (up_s G1.out.size (Nat.le_refl _))
      clear eV i0 i1 i2 i3 iz X1 X2 G1 G2 HL SQ
      obtain ⟨i0, i1, i2, i3⟩ := cells4c X3.out
      obtain ⟨vss, ehs, hvn, how, hev⟩ := MI.out
      have EHS : Hid (vss.length = k) := ehs
      have HVN : Hid (∀ v ∈ vss, v.length = 4) := hvn
      have OW : Hid (wr.ownsRow (gx + 3) 31 4 u k vss.flatten) := how
      have EV : Hid (∀ (i : Nat) vs e, vss[i]? = some vs → m.ss[i]? = some e → SpP (fun b => Fresh (gx + 3) wr.heap.size b ∧ u.ownBlock ≠ some b) wr e vs) := hev
      clear ehs hvn how hev MI
      have ew : wrap64 ((k : Int) + 1) = (k : Int) + 1 := by have := FW.out.1; have := LT.out; unfold wrap64; omega
      have LE : Hid (k + 1 ≤ 549755813888) := by have := FW.out.1; have := LT.out; show k + 1 ≤ _; omega
      have OW3 : Hid (∀ X : Obj, (W3.alloc X).ownsRow (gx + 3) 31 4 u k vss.flatten) := fun X => (own_below OW.out B3.out).alloc X
      have NW : Hid (∀ j u, (spC s (.slice y s.ls.length yc) : List Value)[j]? = some u → (W3.alloc (.cells (spC s (.slice y s.ls.length yc)).toArray 31)).cell? ((⟨W3.heap.size, 0, none⟩ : Addr).add j) = some u) := mk_cellsC W3 _ _
      have BZ : Hid (∀ X : Obj, gx + 3 ≤ (W3.alloc X).heap.size) := fun X => by have := ZW.out; have := B3.out.size; simp; omega
      have I : Hid _ := infoSp
      have C3 : Hid (Cy w gx (some a) x2 x3 m.ss.length m.ts.length m.ac.length c1 c2 c3 (u) (.slice none 0 0) (.slice none 0 0) W3) := CW.out.on B3.out
      obtain ⟨o0, o1, o2⟩ := cells3 C3.out.ox
      go_wp2_with (at_builtin; obtain ⟨i, z, hi, hz, hs', hy, hzc⟩ := I.out; refine wpList_append_own_at _ rfl _ _ 22 rfl (gx + 3) 31 i z 4 56 Try.underlying22 hi hz hs' hy hzc (by decide) u k vss.flatten rfl (OW3.out _) ⟨W3.heap.size, 0, none⟩ 1 1 (spC s (.slice y s.ls.length yc)) rfl rfl NW.out (by intro u hu; simp at hu; rcases hu with h | h | h | h <;> subst h <;> rfl) (by have := LE.out; simp [maxLen]; omega) (by have := LE.out; omega) (BZ.out _) ?_; intro v' w7 q1 q2 q3 q4; obtain ⟨y7, n7, c7, rfl⟩ := ow_form q1; have Q1 : Hid _ := q1; have Q2 : Hid _ := q2; have Q4 : Hid _ := q4; clear q1 q2 q3 q4 hi hz hs' hy hzc o0 o1 o2; have C7 : Hid (Cy w gx (some a) x2 x3 m.ss.length m.ts.length m.ac.length c1 c2 c3 (u) (.slice none 0 0) (.slice none 0 0) w7) := (C3.out.on ((Below.refl _ _).alloc (Nat.le_refl _) _)).grown Q2.out (fun g e => Nat.le_trans NB.out (OW.out.lt g e).1) HX.out; obtain ⟨o0, o1, o2⟩ := cells3 C7.out.ox; have oz := frz (j := 0) C7.out.ox)
      try rw [ew]
      have b6 : Below W3.heap.size W3 (W3.alloc (.cells (spC s (.slice y s.ls.length yc)).toArray 31)) := (Below.refl _ _).alloc (Nat.le_refl _) _
      have MS : MkI 31 4 SpP (gx + 3) m.ss (k + 1) (.slice y7 n7 c7) w7 := MkI.step keptSp EHS.out HVN.out EV.out OW.out.lt _ _ ES.out rfl ZW.out (B3.out.trans (b6.mono B3.out.size)) ⟨y, yc, rfl, (H3.out.fr (fun q hq => b6.cell hq.2)).sub (up_s (Nat.le_refl _) b6.size)⟩ Q2.out Q1.out Q4.out
      have FR : ∀ b, gx + 3 ≤ b → b < gx + 3 → (w7.setCell ⟨gx + 2, 0, none⟩ (.slice y7 n7 c7)).heap[b]? = wr.heap[b]? := fun b h1 h2 => by
        have z1 := ZW.out
        have z2 := B3.out.size
        have z3 := b6.size
        exact (Below.heap_setCell _ _ _ _ (by show b ≠ gx + 2; omega)).trans ((Q2.out.block b (Nat.lt_of_lt_of_le h2 (BZ.out _)) (fun e => by have := (OW.out.lt b e.symm).1; omega)).trans ((b6.block b (by omega)).trans (B3.out.block b (by omega))))
      exact ⟨⟨k + 1, .slice y7 n7 c7, Nat.succ_le_of_lt LT.out, rfl, by rw [show (w7.setCell ⟨gx + 2, 0, none⟩ (.slice y7 n7 c7)).heap.size = w7.heap.size by simp [World.setCell]]; exact Nat.le_trans (BZ.out _) Q2.out.size, C7.out.put HX.out 0 _ rfl, MS.put keptSp (by have := NB.out; omega) 0 _⟩, msr LT.out⟩
    · have kl : ¬ (k : Int) < m.ss.length := by omega
      have ek : k = m.ss.length := by omega
      subst ek
      obtain ⟨yy1, cc1, rfl, hy⟩ := MI.out.done keptSp FW.out.1
      obtain ⟨N1, eN⟩ : ∃ n, n = wr.heap.size := ⟨_, rfl⟩
      rw [← eN] at hy
      have ZN : Hid (wr.heap.size = N1) := eN.symm
      have RR : Hid (RwF 4 (SpP (Fresh (gx + 3) N1) wr) (Fresh (gx + 3) N1) wr yy1 m.ss) := hy
      clear hy hlt hk MI eN
      have C1 : Hid (Cy w gx x1 x2 x3 m.ss.length m.ts.length m.ac.length c1 c2 c3 (.slice yy1 m.ss.length cc1) (.slice none 0 0) (.slice none 0 0) wr) := CW.out
      have E1 : Hid (RwF 4 (SpP (Fresh (gx + 3) N1) wr) (Fresh (gx + 3) N1) wr yy1 m.ss) := RR.out
      have NB0 : Hid (gx + 3 ≤ N1) := by have := ZW.out; have := ZN.out; show _ ≤ _; omega
      have ZN1 : Hid (N1 ≤ wr.heap.size) := by have := ZN.out; show _ ≤ _; omega
      clear CW RR ZW NB ZN
      have NB : Hid (gx + 3 ≤ N1) := NB0.out
      obtain ⟨b0, b1, b2⟩ := cells3 C1.out.bx
      go_upto_region 9 with fail
      clear b0 b1 b2
      go_loopw [31] (fun i wr => ∃ (k : Nat) (u : Value), k ≤ m.ts.length ∧ i = .int .i64 k ∧ N1 ≤ wr.heap.size ∧ Cy w gx x1 x2 x3 m.ss.length m.ts.length m.ac.length c1 c2 c3 (.slice yy1 m.ss.length cc1) (u) (.slice none 0 0) wr ∧ MkI 44 18 (TnP d) (N1) m.ts k u wr ∧ RwF 4 (SpP (Fresh (gx + 3) N1) wr) (Fresh (gx + 3) N1) wr yy1 m.ss) (fun i _ => m.ts.length - (intOf i).toNat)
      case atStart => exact ⟨0, .slice none 0 0, Nat.zero_le _, rfl, ZN1.out, C1.out, MkI.zero _ _ _ _ _ _, E1.out⟩
      case round =>
        clear C1 E1 ZN1
        obtain ⟨k, u, hk, rfl, hz, hc, hm, hx0⟩ := hrel
        have CW : Hid (Cy w gx x1 x2 x3 m.ss.length m.ts.length m.ac.length c1 c2 c3 (.slice yy1 m.ss.length cc1) (u) (.slice none 0 0) wr) := hc
        have ZW : Hid (N1 ≤ wr.heap.size) := hz
        have MI : Hid (MkI 44 18 (TnP d) (N1) m.ts k u wr) := hm
        have D0 : Hid (RwF 4 (SpP (Fresh (gx + 3) N1) wr) (Fresh (gx + 3) N1) wr yy1 m.ss) := hx0
        clear hz hc hm hx0
        by_cases hlt : k < m.ts.length
        · obtain ⟨a, rfl⟩ := HA.out.2.1.some (by omega)
          have hb2 : Below w.heap.size w wr := CW.out.b
          obtain ⟨s, sv, se, _, sp, sk⟩ := (rw_frK (keptTn d) (w' := wr) HA.out.2.1 (old_fr hb2)).el k hlt
          have ES : Hid (m.ts[k]? = some s) := se
          have LT : Hid (k < m.ts.length) := hlt
          have kl : (k : Int) < m.ts.length := by omega
          have V1 : Hid (TnP d (fun b => b < w.heap.size) wr s sv) := sp
          have K1 : Hid (CsAt wr (a.add (k * 18)) sv) := sk
          have O1 : Hid (sv.length = 18 ∧ sv.toArray.all (·.oneCell') = true) := TnP.one sp
          clear hlt se sk sp hb2 hk
          have n1 : sv.length = 18 := O1.out.1
          have st1 : ∀ W : World, (storeCells ⟨W.heap.size, 0, none⟩ sv 0).run Try.prog (W.alloc (.cells #[.int .i64 0, .string ⟨#[]⟩, .slice none 0 0, .slice none 0 0, .int .i64 0, .int .i64 0, .string ⟨#[]⟩, .string ⟨#[]⟩, .int .u8 0, .int .u64 0, .string ⟨#[]⟩, .slice none 0 0, .slice none 0 0, .int .u8 0, .int .i64 0, .int .i64 0, .int .i64 0, .int .i64 0] 44)) = .ok () (W.alloc (.cells sv.toArray 44)) := fun W => run_storeCells_new (P := Try.prog) W 44 _ sv.toArray (by rw [List.size_toArray, O1.out.1]; exact tn_info) (by simp [O1.out.1]) O1.out.2
          go_upto_region 10 with fail
          go_upto_region 11 with (refine wpList_load_at rfl 44 _ rfl (a.add (k * 18)) rfl sv _ K1.out Try.underlying44 rfl (by rw [O1.out.1]; exact tn_info) ?_)
          obtain ⟨W1, eV⟩ : ∃ V, V = wr.alloc (.cells sv.toArray 44) := ⟨_, rfl⟩
          obtain ⟨gs, eg⟩ : ∃ n, n = wr.heap.size := ⟨_, rfl⟩
          try rw [← eV]
          try rw [← eg]
          have Y1 : Hid (W1.heap[gs]? = some (.cells sv.toArray 44 (0, 0))) := by rw [eV, eg]; exact heap_alloc_last _ _
          have G1 : Hid (Below wr.heap.size wr W1) := by rw [eV]; exact (Below.refl _ _).alloc (Nat.le_refl _) _
          have GS : Hid (wr.heap.size ≤ gs ∧ gs < W1.heap.size) := ⟨by omega, blk_in2' Y1.out⟩
          clear eV eg st1 n1 O1 K1
          obtain ⟨p1, q1, p2, q2, p3, q3, p4, q4, rfl, hq⟩ := V1.out
          have TQ : Hid (∀ V, Below wr.heap.size wr V → TnQ (fun b => b < V.heap.size) d V s p1 p2 p3 p4) := fun V hV => (hq.fr (fun q hq => hV.cell (Nat.lt_of_lt_of_le hq CW.out.b.size))).sub (fun b h => Nat.lt_of_lt_of_le (Nat.lt_of_lt_of_le h CW.out.b.size) hV.size)
          have V0X : Hid (W1.drew.heap[gs]? = some (.cells #[.int .i64 s.pl, .string s.nm, .slice p1 s.fr.length q1, .slice p2 s.to.length q2, .int .i64 s.eh.op, .int .i64 s.eh.pl, .string s.eh.nm, .string s.eh.fd, .int .u8 s.eh.vk, .int .u64 s.eh.vb, .string s.eh.vs, .slice p3 s.ek.length q3, .slice p4 s.en.length q4, .int .u8 s.eh.kd, .int .i64 s.eh.ar, .int .i64 s.eh.rf, .int .i64 s.eh.fr, .int .i64 s.eh.up] 44 (0, 0))) := Y1.out
          have V0B : Hid (Below wr.heap.size wr W1.drew) := G1.out.drew
          clear V1 hq Y1
          refine wp_region_J 10 (fun V => V.heap[gs]? = some (.cells #[.int .i64 s.pl, .string s.nm, .slice p1 s.fr.length q1, .slice p2 s.to.length q2, .int .i64 s.eh.op, .int .i64 s.eh.pl, .string s.eh.nm, .string s.eh.fd, .int .u8 s.eh.vk, .int .u64 s.eh.vb, .string s.eh.vs, .slice p3 s.ek.length q3, .slice p4 s.en.length q4, .int .u8 s.eh.kd, .int .i64 s.eh.ar, .int .i64 s.eh.rf, .int .i64 s.eh.fr, .int .i64 s.eh.up] 44 (0, 0))) (by kernel_rfl) V0X.out (fun hHeld => ?_)
          obtain ⟨V0, e0⟩ : ∃ V, V = W1.drew := ⟨_, rfl⟩
          have GS0 : Hid (wr.heap.size ≤ gs ∧ gs < V0.heap.size) := by rw [e0]; exact GS.out
          rw [← e0] at V0X V0B hHeld ⊢
          clear e0 G1 GS
          refine wpAnyJ_take (i := 0) (v := .pointer (some ⟨gs, 2, none⟩)) rfl (by kernel_rfl) (by kernel_rfl) (by kernel_rfl) (by kernel_rfl) (fun _ _ _ h => h) (Or.inl ⟨by rfl, fun V hV => ?_⟩) hHeld ?_
          · go_simp
          simp only [Act.put, List.setIfInBounds_toArray, List.getElem_toArray, List.getElem_cons_zero, List.getElem_cons_succ, List.set_cons_zero, List.set_cons_succ]
          refine wpAnyJ_take (i := 1) (v := .slice p1 s.fr.length q1) rfl (by kernel_rfl) (by kernel_rfl) (by kernel_rfl) (by kernel_rfl) (fun _ _ _ h => h) (Or.inl ⟨by rfl, fun V hV => ?_⟩) hHeld ?_
          · have k0 : V.cell? ⟨gs, 2, none⟩ = some (.slice p1 s.fr.length q1) := by simp [World.cell?, show V.heap[gs]? = some (.cells #[.int .i64 s.pl, .string s.nm, .slice p1 s.fr.length q1, .slice p2 s.to.length q2, .int .i64 s.eh.op, .int .i64 s.eh.pl, .string s.eh.nm, .string s.eh.fd, .int .u8 s.eh.vk, .int .u64 s.eh.vb, .string s.eh.vs, .slice p3 s.ek.length q3, .slice p4 s.en.length q4, .int .u8 s.eh.kd, .int .i64 s.eh.ar, .int .i64 s.eh.rf, .int .i64 s.eh.fr, .int .i64 s.eh.up] 44 (0, 0)) from hV]
            go_simp
          simp only [Act.put, List.setIfInBounds_toArray, List.getElem_toArray, List.getElem_cons_zero, List.getElem_cons_succ, List.set_cons_zero, List.set_cons_succ]
          refine wpAnyJ_take (i := 3) (v := .pointer (some ⟨gs, 3, none⟩)) rfl (by kernel_rfl) (by kernel_rfl) (by kernel_rfl) (by kernel_rfl) (fun _ _ _ h => h) (Or.inl ⟨by rfl, fun V hV => ?_⟩) hHeld ?_
          · go_simp
          simp only [Act.put, List.setIfInBounds_toArray, List.getElem_toArray, List.getElem_cons_zero, List.getElem_cons_succ, List.set_cons_zero, List.set_cons_succ]
          refine wpAnyJ_take (i := 4) (v := .slice p2 s.to.length q2) rfl (by kernel_rfl) (by kernel_rfl) (by kernel_rfl) (by kernel_rfl) (fun _ _ _ h => h) (Or.inl ⟨by rfl, fun V hV => ?_⟩) hHeld ?_
          · have k0 : V.cell? ⟨gs, 3, none⟩ = some (.slice p2 s.to.length q2) := by simp [World.cell?, show V.heap[gs]? = some (.cells #[.int .i64 s.pl, .string s.nm, .slice p1 s.fr.length q1, .slice p2 s.to.length q2, .int .i64 s.eh.op, .int .i64 s.eh.pl, .string s.eh.nm, .string s.eh.fd, .int .u8 s.eh.vk, .int .u64 s.eh.vb, .string s.eh.vs, .slice p3 s.ek.length q3, .slice p4 s.en.length q4, .int .u8 s.eh.kd, .int .i64 s.eh.ar, .int .i64 s.eh.rf, .int .i64 s.eh.fr, .int .i64 s.eh.up] 44 (0, 0)) from hV]
            go_simp
          simp only [Act.put, List.setIfInBounds_toArray, List.getElem_toArray, List.getElem_cons_zero, List.getElem_cons_succ, List.set_cons_zero, List.set_cons_succ]
          refine wpAnyJ_take (i := 6) (v := .pointer (some ⟨gs, 4, none⟩)) rfl (by kernel_rfl) (by kernel_rfl) (by kernel_rfl) (by kernel_rfl) (fun _ _ _ h => h) (Or.inl ⟨by rfl, fun V hV => ?_⟩) hHeld ?_
          · go_simp
          simp only [Act.put, List.setIfInBounds_toArray, List.getElem_toArray, List.getElem_cons_zero, List.getElem_cons_succ, List.set_cons_zero, List.set_cons_succ]
          refine wpAnyJ_take (i := 7) (v := .agg #[.int .i64 s.eh.op, .int .i64 s.eh.pl, .string s.eh.nm, .string s.eh.fd, .int .u8 s.eh.vk, .int .u64 s.eh.vb, .string s.eh.vs, .slice p3 s.ek.length q3, .slice p4 s.en.length q4, .int .u8 s.eh.kd, .int .i64 s.eh.ar, .int .i64 s.eh.rf, .int .i64 s.eh.fr, .int .i64 s.eh.up]) rfl (by kernel_rfl) (by kernel_rfl) (by kernel_rfl) (by kernel_rfl) (fun _ _ _ h => h) (yieldsIf_load_mid (by rfl) 42 (.tmp 41) rfl gs 4 rfl [.int .i64 s.eh.op, .int .i64 s.eh.pl, .string s.eh.nm, .string s.eh.fd, .int .u8 s.eh.vk, .int .u64 s.eh.vb, .string s.eh.vs, .slice p3 s.ek.length q3, .slice p4 s.en.length q4, .int .u8 s.eh.kd, .int .i64 s.eh.ar, .int .i64 s.eh.rf, .int .i64 s.eh.fr, .int .i64 s.eh.up] _ (fun V hV j v hv => by have q := row_range (show V.heap[gs]? = some (.cells #[.int .i64 s.pl, .string s.nm, .slice p1 s.fr.length q1, .slice p2 s.to.length q2, .int .i64 s.eh.op, .int .i64 s.eh.pl, .string s.eh.nm, .string s.eh.fd, .int .u8 s.eh.vk, .int .u64 s.eh.vb, .string s.eh.vs, .slice p3 s.ek.length q3, .slice p4 s.en.length q4, .int .u8 s.eh.kd, .int .i64 s.eh.ar, .int .i64 s.eh.rf, .int .i64 s.eh.fr, .int .i64 s.eh.up] 44 (0, 0)) from hV) (j + 4) v (by simpa using hv); simpa [Nat.add_comm] using q) Try.underlying42 rfl (show (Try.prog.info? 42).map (·.size) = some 14 by kernel_rfl)) hHeld ?_
          simp only [Act.put, List.setIfInBounds_toArray, List.getElem_toArray, List.getElem_cons_zero, List.getElem_cons_succ, List.set_cons_zero, List.set_cons_succ]
          refine wpAnyJ_one (i := 2) (by kernel_rfl) rfl (fun K hK => ?_)
          rw [if_pos (by rfl)]
          unfold Oper.wp execOp
          go_simp
          refine (CloneF p1 s.fr q1 V0 (TQ.out _ V0B.out).1.1.1 (TQ.out _ V0B.out).1.2).mono ?_
          rintro e V2 ⟨⟨y1, r1, rfl, hn1⟩, hb⟩
          have V2X : Hid (V2.heap[gs]? = some (.cells #[.int .i64 s.pl, .string s.nm, .slice p1 s.fr.length q1, .slice p2 s.to.length q2, .int .i64 s.eh.op, .int .i64 s.eh.pl, .string s.eh.nm, .string s.eh.fd, .int .u8 s.eh.vk, .int .u64 s.eh.vb, .string s.eh.vs, .slice p3 s.ek.length q3, .slice p4 s.en.length q4, .int .u8 s.eh.kd, .int .i64 s.eh.ar, .int .i64 s.eh.rf, .int .i64 s.eh.fr, .int .i64 s.eh.up] 44 (0, 0))) := (hb.block _ (blk_in2' V0X.out)).trans V0X.out
          have V2B : Hid (Below wr.heap.size wr V2) := V0B.out.trans (hb.mono V0B.out.size)
          have N1' : Hid (NmF (Fresh V0.heap.size V2.heap.size) V2 y1 s.fr) := hn1
          have S2 : Hid (V0.heap.size ≤ V2.heap.size) := hb.size
          refine hK.out _ _ (fun _ => V2X.out) ?_
          clear hK K hb hn1 hHeld
          refine wpAnyJ_take (i := 9) (v := .pointer (some ⟨gs, 2, none⟩)) rfl (by kernel_rfl) (by kernel_rfl) (by kernel_rfl) (by kernel_rfl) (fun _ _ _ h => h) (Or.inl ⟨by rfl, fun V hV => ?_⟩) V2X.out ?_
          · go_simp
          simp only [Act.put, List.setIfInBounds_toArray, List.getElem_toArray, List.getElem_cons_zero, List.getElem_cons_succ, List.set_cons_zero, List.set_cons_succ]
          refine wpAnyJ_one (i := 5) (by kernel_rfl) rfl (fun K hK => ?_)
          rw [if_pos (by rfl)]
          unfold Oper.wp execOp
          go_simp
          refine (CloneF p2 s.to q2 V2 (TQ.out _ V2B.out).2.1.1.1 (TQ.out _ V2B.out).2.1.2).mono ?_
          rintro e V3 ⟨⟨y2, r2, rfl, hn2⟩, hb⟩
          have V3X : Hid (V3.heap[gs]? = some (.cells #[.int .i64 s.pl, .string s.nm, .slice p1 s.fr.length q1, .slice p2 s.to.length q2, .int .i64 s.eh.op, .int .i64 s.eh.pl, .string s.eh.nm, .string s.eh.fd, .int .u8 s.eh.vk, .int .u64 s.eh.vb, .string s.eh.vs, .slice p3 s.ek.length q3, .slice p4 s.en.length q4, .int .u8 s.eh.kd, .int .i64 s.eh.ar, .int .i64 s.eh.rf, .int .i64 s.eh.fr, .int .i64 s.eh.up] 44 (0, 0))) := (hb.block _ (blk_in2' V2X.out)).trans V2X.out
          have V3B : Hid (Below wr.heap.size wr V3) := V2B.out.trans (hb.mono V2B.out.size)
          have N1'' : Hid (NmF (Fresh V0.heap.size V3.heap.size) V3 y1 s.fr) := (N1'.out.fr (fun q hq => hb.cell hq.2)).sub (up_s (Nat.le_refl _) hb.size)
          have N2' : Hid (NmF (Fresh V0.heap.size V3.heap.size) V3 y2 s.to) := hn2.sub (up_s S2.out (Nat.le_refl _))
          have S3 : Hid (V0.heap.size ≤ V3.heap.size) := Nat.le_trans S2.out hb.size
          refine hK.out _ _ (fun _ => V3X.out) ?_
          clear hK K hb hn2 N1'
          refine wpAnyJ_one (i := 8) (by kernel_rfl) rfl (fun K hK => ?_)
          rw [if_pos (by rfl)]
          unfold Oper.wp execOp
          go_simp
          refine (cpX_any d V3 (EV s.eh (.slice p3 s.ek.length q3) (.slice p4 s.en.length q4)) (.mk s.eh s.en s.ek) (EvF.at (S := fun b => b < V3.heap.size) ⟨p3, q3, p4, q4, rfl, (TQ.out _ V3B.out).2.2.2.1, (TQ.out _ V3B.out).2.2.2.2, (TQ.out _ V3B.out).2.2.1⟩)).mono ?_
          rintro e V4 ⟨⟨v', rfl, y3, r3, y4, r4, rfl, hn4, hf4, hk3⟩, hb⟩
          have V4X : Hid (V4.heap[gs]? = some (.cells #[.int .i64 s.pl, .string s.nm, .slice p1 s.fr.length q1, .slice p2 s.to.length q2, .int .i64 s.eh.op, .int .i64 s.eh.pl, .string s.eh.nm, .string s.eh.fd, .int .u8 s.eh.vk, .int .u64 s.eh.vb, .string s.eh.vs, .slice p3 s.ek.length q3, .slice p4 s.en.length q4, .int .u8 s.eh.kd, .int .i64 s.eh.ar, .int .i64 s.eh.rf, .int .i64 s.eh.fr, .int .i64 s.eh.up] 44 (0, 0))) := (hb.block _ (blk_in2' V3X.out)).trans V3X.out
          have V4B : Hid (Below wr.heap.size wr V4) := V3B.out.trans (hb.mono V3B.out.size)
          have F1 : Hid (NmF (Fresh V0.heap.size V4.heap.size) V4 y1 s.fr) := (N1''.out.fr (fun q hq => hb.cell hq.2)).sub (up_s (Nat.le_refl _) hb.size)
          have F2 : Hid (NmF (Fresh V0.heap.size V4.heap.size) V4 y2 s.to) := (N2'.out.fr (fun q hq => hb.cell hq.2)).sub (up_s (Nat.le_refl _) hb.size)
          have F4 : Hid (NmF (Fresh V0.heap.size V4.heap.size) V4 y4 s.en) := hn4.sub (up_s S3.out (Nat.le_refl _))
          have F3 : Hid (KdF (Fresh V0.heap.size V4.heap.size) d V4 y3 s.ek) := hk3.sub (up_s S3.out (Nat.le_refl _))
          refine hK.out _ _ (fun _ => V4X.out) ?_
          clear hK K hb hn4 hf4 hk3 N1'' N2' S3 S2 V0X V2X V3X V0B V2B V3B
          have k0 : V4.cell? ⟨gs, 2, none⟩ = some (.slice p1 s.fr.length q1) := by simp [World.cell?, V4X.out]
          have kz := frz (j := 2) V4X.out
          refine wpAnyJ_one (i := 10) (by kernel_rfl) rfl (fun K hK => ?_)
          rw [if_pos (by rfl)]
          unfold Oper.wp execOp
          go_simp
          obtain ⟨V5, e5⟩ : ∃ V, V = V4.setCell ⟨gs, 2, none⟩ (.slice y1 s.fr.length r1) := ⟨_, rfl⟩
          rw [← e5]
          have V5X : Hid (V5.heap[gs]? = some (.cells #[.int .i64 s.pl, .string s.nm, .slice y1 s.fr.length r1, .slice p2 s.to.length q2, .int .i64 s.eh.op, .int .i64 s.eh.pl, .string s.eh.nm, .string s.eh.fd, .int .u8 s.eh.vk, .int .u64 s.eh.vb, .string s.eh.vs, .slice p3 s.ek.length q3, .slice p4 s.en.length q4, .int .u8 s.eh.kd, .int .i64 s.eh.ar, .int .i64 s.eh.rf, .int .i64 s.eh.fr, .int .i64 s.eh.up] 44 (0, 0))) := by rw [e5]; exact heap_setCell_same _ gs 2 _ _ _ V4X.out
          have V5G : Hid (V4.grownBy V5 (some gs)) := by rw [e5]; exact ⟨rfl, rfl, rfl, by simp [World.setCell], fun q _ hq => Below.heap_setCell _ _ _ _ (by show q ≠ gs; exact fun e => hq (by rw [e]))⟩
          clear e5 k0 kz
          refine hK.out _ _ (fun h => nomatch (show true = false from h)) ?_
          clear hK K
          refine wpAnyJ_one (i := 11) (by kernel_rfl) rfl (fun K hK => ?_)
          rw [if_pos (by rfl)]
          unfold Oper.wp execOp
          go_simp
          refine hK.out _ _ (fun h => nomatch (show true = false from h)) ?_
          clear hK K
          have k0 : V5.cell? ⟨gs, 3, none⟩ = some (.slice p2 s.to.length q2) := by simp [World.cell?, V5X.out]
          have kz := frz (j := 3) V5X.out
          refine wpAnyJ_one (i := 12) (by kernel_rfl) rfl (fun K hK => ?_)
          rw [if_pos (by rfl)]
          unfold Oper.wp execOp
          go_simp
          obtain ⟨V6, e5⟩ : ∃ V, V = V5.setCell ⟨gs, 3, none⟩ (.slice y2 s.to.length r2) := ⟨_, rfl⟩
          rw [← e5]
          have V6X : Hid (V6.heap[gs]? = some (.cells #[.int .i64 s.pl, .string s.nm, .slice y1 s.fr.length r1, .slice y2 s.to.length r2, .int .i64 s.eh.op, .int .i64 s.eh.pl, .string s.eh.nm, .string s.eh.fd, .int .u8 s.eh.vk, .int .u64 s.eh.vb, .string s.eh.vs, .slice p3 s.ek.length q3, .slice p4 s.en.length q4, .int .u8 s.eh.kd, .int .i64 s.eh.ar, .int .i64 s.eh.rf, .int .i64 s.eh.fr, .int .i64 s.eh.up] 44 (0, 0))) := by rw [e5]; exact heap_setCell_same _ gs 3 _ _ _ V5X.out
          have V6G : Hid (V5.grownBy V6 (some gs)) := by rw [e5]; exact ⟨rfl, rfl, rfl, by simp [World.setCell], fun q _ hq => Below.heap_setCell _ _ _ _ (by show q ≠ gs; exact fun e => hq (by rw [e]))⟩
          clear e5 k0 kz
          refine hK.out _ _ (fun h => nomatch (show true = false from h)) ?_
          clear hK K
          refine wpAnyJ_one (i := 13) (by kernel_rfl) rfl (fun K hK => ?_)
          rw [if_pos (by rfl)]
          unfold Oper.wp execOp
          go_simp
          refine hK.out _ _ (fun h => nomatch (show true = false from h)) ?_
          clear hK K
          refine wpAnyJ_one (i := 14) (by kernel_rfl) rfl (fun K hK => ?_)
          rw [if_pos (by rfl)]
          refine wp_store_mid 42 _ _ rfl gs 4 #[.int .i64 s.eh.op, .int .i64 s.eh.pl, .string s.eh.nm, .string s.eh.fd, .int .u8 s.eh.vk, .int .u64 s.eh.vb, .string s.eh.vs, .slice y3 s.ek.length r3, .slice y4 s.en.length r4, .int .u8 s.eh.kd, .int .i64 s.eh.ar, .int .i64 s.eh.rf, .int .i64 s.eh.fr, .int .i64 s.eh.up] rfl rfl (there_row V6X.out 4 14 (by simp)) (show (Try.prog.info? 42).map (·.size) = some 14 by kernel_rfl) (by simp [Value.oneCell']) ?_
          obtain ⟨W3, e5⟩ : ∃ V, V = V6.setCells gs 4 (#[.int .i64 s.eh.op, .int .i64 s.eh.pl, .string s.eh.nm, .string s.eh.fd, .int .u8 s.eh.vk, .int .u64 s.eh.vb, .string s.eh.vs, .slice y3 s.ek.length r3, .slice y4 s.en.length r4, .int .u8 s.eh.kd, .int .i64 s.eh.ar, .int .i64 s.eh.rf, .int .i64 s.eh.fr, .int .i64 s.eh.up] : Array Value).toList := ⟨_, rfl⟩
          rw [← e5]
          have CS : Hid (CsAt W3 ⟨gs, 0, none⟩ (tnC s (.slice y1 s.fr.length r1) (.slice y2 s.to.length r2) (.slice y3 s.ek.length r3) (.slice y4 s.en.length r4))) := by rw [e5]; exact cs_mid V6X.out (l1 := [.int .i64 s.pl, .string s.nm, .slice y1 s.fr.length r1, .slice y2 s.to.length r2]) (l2 := [.int .i64 s.eh.op, .int .i64 s.eh.pl, .string s.eh.nm, .string s.eh.fd, .int .u8 s.eh.vk, .int .u64 s.eh.vb, .string s.eh.vs, .slice y3 s.ek.length r3, .slice y4 s.en.length r4, .int .u8 s.eh.kd, .int .i64 s.eh.ar, .int .i64 s.eh.rf, .int .i64 s.eh.fr, .int .i64 s.eh.up]) rfl rfl
          have W3G : Hid (V4.grownBy W3 (some gs)) := by rw [e5]; exact (V5G.out.trans V6G.out).trans (gr_cells _ _ _ _)
          clear e5 V5G V6G V5X V6X
          refine hK.out _ _ (fun h => nomatch (show true = false from h)) ?_
          clear hK K
          refine wpAnyJ_done (by kernel_rfl) ?_ _
          have FS : ∀ q : Addr, Fresh V0.heap.size V4.heap.size q.block → W3.cell? q = V4.cell? q := fun q hq => World.cell?_of_block (W3G.out.block _ hq.2 (fun e => by have := hq.1; have := GS0.out.2; have e := Option.some.inj e; omega))
          have B3 : Hid (Below wr.heap.size wr W3) := ⟨W3G.out.os.trans V4B.out.os, W3G.out.tape.trans V4B.out.tape, W3G.out.output.trans V4B.out.output, Nat.le_trans V4B.out.size W3G.out.size, fun i hi => (W3G.out.block i (Nat.lt_of_lt_of_le hi V4B.out.size) (fun e => by have e := Option.some.inj e; have := GS0.out.1; omega)).trans (V4B.out.block i hi)⟩
          have ZZ : Hid (wr.heap.size ≤ V0.heap.size) := by have := GS0.out; show _ ≤ _; omega
          have H3 : Hid (TnQ (Fresh wr.heap.size W3.heap.size) d W3 s y1 y2 y3 y4) := by
            have u := up_s ZZ.out W3G.out.size
            have f1 := (TQ.out _ V4B.out).1.2
            have f2 := (TQ.out _ V4B.out).2.1.2
            have f4 := (TQ.out _ V4B.out).2.2.2.2
            exact ⟨⟨(F1.out.fr FS).sub u, f1⟩, ⟨(F2.out.fr FS).sub u, f2⟩, (F3.out.fr FS).sub u, ⟨(F4.out.fr FS).sub u, f4⟩⟩
          clear FS F1 F2 F3 F4 W3G V4X V4B TQ ZZ GS0
          go_step
          obtain ⟨vss, ehs, hvn, how, hev⟩ := MI.out
          have EHS : Hid (vss.length = k) := ehs
          have HVN : Hid (∀ v ∈ vss, v.length = 18) := hvn
          have OW : Hid (wr.ownsRow (N1) 44 18 u k vss.flatten) := how
          have EV : Hid (∀ (i : Nat) vs e, vss[i]? = some vs → m.ts[i]? = some e → (TnP d) (fun b => Fresh (N1) wr.heap.size b ∧ u.ownBlock ≠ some b) wr e vs) := hev
          clear ehs hvn how hev MI
          have ew : wrap64 ((k : Int) + 1) = (k : Int) + 1 := by have := FW.out.2.1; have := LT.out; unfold wrap64; omega
          have LE : Hid (k + 1 ≤ 549755813888) := by have := FW.out.2.1; have := LT.out; show k + 1 ≤ _; omega
          have OW3 : Hid (∀ X : Obj, (W3.alloc X).ownsRow (N1) 44 18 u k vss.flatten) := fun X => (own_below OW.out B3.out).alloc X
          have NW : Hid (∀ j u, (tnC s (.slice y1 s.fr.length r1) (.slice y2 s.to.length r2) (.slice y3 s.ek.length r3) (.slice y4 s.en.length r4) : List Value)[j]? = some u → (W3.alloc (.cells (tnC s (.slice y1 s.fr.length r1) (.slice y2 s.to.length r2) (.slice y3 s.ek.length r3) (.slice y4 s.en.length r4)).toArray 44)).cell? ((⟨W3.heap.size, 0, none⟩ : Addr).add j) = some u) := mk_cellsC W3 _ _
          have BZ : Hid (∀ X : Obj, N1 ≤ (W3.alloc X).heap.size) := fun X => by have := ZW.out; have := B3.out.size; simp; omega
          have I : Hid _ := infoTn
          have C3 : Hid (Cy w gx x1 (some a) x3 m.ss.length m.ts.length m.ac.length c1 c2 c3 (.slice yy1 m.ss.length cc1) (u) (.slice none 0 0) W3) := CW.out.on B3.out
          obtain ⟨o0, o1, o2⟩ := cells3 C3.out.ox
          go_wp2_with (first | (refine wpList_load_at rfl 44 _ rfl ⟨gs, 0, none⟩ rfl (tnC s (.slice y1 s.fr.length r1) (.slice y2 s.to.length r2) (.slice y3 s.ek.length r3) (.slice y4 s.en.length r4)) _ CS.out Try.underlying44 rfl tn_info ?_) | (at_builtin; obtain ⟨i, z, hi, hz, hs', hy, hzc⟩ := I.out; refine wpList_append_own_at _ rfl _ _ 23 rfl (N1) 44 i z 18 240 Try.underlying23 hi hz hs' hy hzc (by decide) u k vss.flatten rfl (OW3.out _) ⟨W3.heap.size, 0, none⟩ 1 1 (tnC s (.slice y1 s.fr.length r1) (.slice y2 s.to.length r2) (.slice y3 s.ek.length r3) (.slice y4 s.en.length r4)) rfl rfl NW.out (by intro u hu; simp at hu; rcases hu with h | h | h | h | h | h | h | h | h | h | h | h | h | h | h | h | h | h <;> subst h <;> rfl) (by have := LE.out; simp [maxLen]; omega) (by have := LE.out; omega) (BZ.out _) ?_; intro v' w7 q1 q2 q3 q4; obtain ⟨y7, n7, c7, rfl⟩ := ow_form q1; have Q1 : Hid _ := q1; have Q2 : Hid _ := q2; have Q4 : Hid _ := q4; clear q1 q2 q3 q4 hi hz hs' hy hzc o0 o1 o2; have C7 : Hid (Cy w gx x1 (some a) x3 m.ss.length m.ts.length m.ac.length c1 c2 c3 (.slice yy1 m.ss.length cc1) (u) (.slice none 0 0) w7) := (C3.out.on ((Below.refl _ _).alloc (Nat.le_refl _) _)).grown Q2.out (fun g e => Nat.le_trans NB.out (OW.out.lt g e).1) HX.out; obtain ⟨o0, o1, o2⟩ := cells3 C7.out.ox; have oz := frz (j := 1) C7.out.ox))
          try rw [ew]
          have b6 : Below W3.heap.size W3 (W3.alloc (.cells (tnC s (.slice y1 s.fr.length r1) (.slice y2 s.to.length r2) (.slice y3 s.ek.length r3) (.slice y4 s.en.length r4)).toArray 44)) := (Below.refl _ _).alloc (Nat.le_refl _) _
          have MS : MkI 44 18 (TnP d) (N1) m.ts (k + 1) (.slice y7 n7 c7) w7 := MkI.step (keptTn d) EHS.out HVN.out EV.out OW.out.lt _ _ ES.out rfl ZW.out (B3.out.trans (b6.mono B3.out.size)) ⟨y1, r1, y2, r2, y3, r3, y4, r4, rfl, (H3.out.fr (fun q hq => b6.cell hq.2)).sub (up_s (Nat.le_refl _) b6.size)⟩ Q2.out Q1.out Q4.out
          have FR : ∀ b, gx + 3 ≤ b → b < N1 → (w7.setCell ⟨gx + 2, 1, none⟩ (.slice y7 n7 c7)).heap[b]? = wr.heap[b]? := fun b h1 h2 => by
            have z1 := ZW.out
            have z2 := B3.out.size
            have z3 := b6.size
            exact (Below.heap_setCell _ _ _ _ (by show b ≠ gx + 2; omega)).trans ((Q2.out.block b (Nat.lt_of_lt_of_le h2 (BZ.out _)) (fun e => by have := (OW.out.lt b e.symm).1; omega)).trans ((b6.block b (by omega)).trans (B3.out.block b (by omega))))
          exact ⟨⟨k + 1, .slice y7 n7 c7, Nat.succ_le_of_lt LT.out, rfl, by rw [show (w7.setCell ⟨gx + 2, 1, none⟩ (.slice y7 n7 c7)).heap.size = w7.heap.size by simp [World.setCell]]; exact Nat.le_trans (BZ.out _) Q2.out.size, C7.out.put HX.out 1 _ rfl, MS.put (keptTn d) (by have := NB.out; omega) 1 _, rw_frK keptSp D0.out (fun q hq => World.cell?_of_block (FR _ hq.1 hq.2))⟩, msr LT.out⟩
        · have kl : ¬ (k : Int) < m.ts.length := by omega
          have ek : k = m.ts.length := by omega
          subst ek
          obtain ⟨yy2, cc2, rfl, hy⟩ := MI.out.done (keptTn d) FW.out.2.1
          obtain ⟨N2, eN⟩ : ∃ n, n = wr.heap.size := ⟨_, rfl⟩
          rw [← eN] at hy
          have ZN : Hid (wr.heap.size = N2) := eN.symm
          have RR : Hid (RwF 18 (TnP d (Fresh (N1) N2) wr) (Fresh (N1) N2) wr yy2 m.ts) := hy
          clear hy hlt hk MI eN
          have C2 : Hid (Cy w gx x1 x2 x3 m.ss.length m.ts.length m.ac.length c1 c2 c3 (.slice yy1 m.ss.length cc1) (.slice yy2 m.ts.length cc2) (.slice none 0 0) wr) := CW.out
          have E1 : Hid (RwF 4 (SpP (Fresh (gx + 3) N1) wr) (Fresh (gx + 3) N1) wr yy1 m.ss) := D0.out
          have E2 : Hid (RwF 18 (TnP d (Fresh N1 N2) wr) (Fresh N1 N2) wr yy2 m.ts) := RR.out
          have NC : Hid (gx + 3 ≤ N1 ∧ N1 ≤ N2) := by have := NB.out; have := ZW.out; have := ZN.out; show _ ∧ _; omega
          have ZN1 : Hid (N2 ≤ wr.heap.size) := by have := ZN.out; show _ ≤ _; omega
          clear CW RR ZW NB ZN D0
          have NB : Hid (gx + 3 ≤ N2) := by have := NC.out; show _ ≤ _; omega
          obtain ⟨b0, b1, b2⟩ := cells3 C2.out.bx
          go_upto_region 15 with fail
          clear b0 b1 b2
          go_loopw [57] (fun i wr => ∃ (k : Nat) (u : Value), k ≤ m.ac.length ∧ i = .int .i64 k ∧ N2 ≤ wr.heap.size ∧ Cy w gx x1 x2 x3 m.ss.length m.ts.length m.ac.length c1 c2 c3 (.slice yy1 m.ss.length cc1) (.slice yy2 m.ts.length cc2) (u) wr ∧ MkI 49 3 (AcP d) (N2) m.ac k u wr ∧ RwF 4 (SpP (Fresh (gx + 3) N1) wr) (Fresh (gx + 3) N1) wr yy1 m.ss ∧ RwF 18 (TnP d (Fresh N1 N2) wr) (Fresh N1 N2) wr yy2 m.ts) (fun i _ => m.ac.length - (intOf i).toNat)
          case atStart => exact ⟨0, .slice none 0 0, Nat.zero_le _, rfl, ZN1.out, C2.out, MkI.zero _ _ _ _ _ _, E1.out, E2.out⟩
          case round =>
            clear C2 E1 E2 ZN1
            obtain ⟨k, u, hk, rfl, hz, hc, hm, hx0, hx1⟩ := hrel
            have CW : Hid (Cy w gx x1 x2 x3 m.ss.length m.ts.length m.ac.length c1 c2 c3 (.slice yy1 m.ss.length cc1) (.slice yy2 m.ts.length cc2) (u) wr) := hc
            have ZW : Hid (N2 ≤ wr.heap.size) := hz
            have MI : Hid (MkI 49 3 (AcP d) (N2) m.ac k u wr) := hm
            have D0 : Hid (RwF 4 (SpP (Fresh (gx + 3) N1) wr) (Fresh (gx + 3) N1) wr yy1 m.ss) := hx0
            have D1 : Hid (RwF 18 (TnP d (Fresh N1 N2) wr) (Fresh N1 N2) wr yy2 m.ts) := hx1
            clear hz hc hm hx0 hx1
            by_cases hlt : k < m.ac.length
            · obtain ⟨a, rfl⟩ := HA.out.2.2.some (by omega)
              have hb2 : Below w.heap.size w wr := CW.out.b
              obtain ⟨s, sv, se, _, sp, sk⟩ := (rw_frK (keptAc d) (w' := wr) HA.out.2.2 (old_fr hb2)).el k hlt
              have ES : Hid (m.ac[k]? = some s) := se
              have LT : Hid (k < m.ac.length) := hlt
              have kl : (k : Int) < m.ac.length := by omega
              obtain ⟨p, q, rfl, sq⟩ := sp
              have c0 := sk.c0
              have c1' := sk.cp 0 _ rfl
              have c2' := sk.cp 1 _ rfl
              have SQ : Hid (StL (fun b => b < w.heap.size) d wr p s.bd) := sq
              clear hlt se sk sq hb2 hk
              go_upto_region 16 with fail
              go_upto_region 17 with fail
              obtain ⟨W1, eV⟩ : ∃ V, V = wr.alloc (.cells #[.int .i64 s.pl, .string s.nm, .slice p s.bd.length q] 49 (0, 0)) := ⟨_, rfl⟩
              obtain ⟨gs, eg⟩ : ∃ n, n = wr.heap.size := ⟨_, rfl⟩
              try rw [← eV]
              try rw [← eg]
              have X1 : Hid (W1.heap[gs]? = some (.cells #[.int .i64 s.pl, .string s.nm, .slice p s.bd.length q] 49 (0, 0))) := by rw [eV, eg]; exact heap_alloc_last _ _
              have G1 : Hid (Below wr.heap.size wr W1) := by rw [eV]; exact (Below.refl _ _).alloc (Nat.le_refl _) _
              have GS : Hid (wr.heap.size ≤ gs ∧ gs < W1.heap.size) := ⟨by omega, blk_in2' X1.out⟩
              clear eV eg
              clear c0 c1' c2'
              obtain ⟨i0, i1, i2⟩ := cells3 X1.out
              go_wp2_with fail
              refine (csL_any d W1 p s.bd q ((SQ.out.fr (fun q hq => G1.out.cell (Nat.lt_of_lt_of_le hq CW.out.b.size))).sub (fun b h => Nat.lt_of_lt_of_le (Nat.lt_of_lt_of_le h CW.out.b.size) G1.out.size))).mono ?_
              rintro e w2 ⟨⟨y, yc, rfl, hl⟩, hb⟩
              have X2 : Hid (w2.heap[gs]? = some (.cells #[.int .i64 s.pl, .string s.nm, .slice p s.bd.length q] 49 (0, 0))) := (hb.block _ (blk_in2' X1.out)).trans X1.out
              have G2 : Hid (Below wr.heap.size wr w2) := G1.out.trans (hb.mono G1.out.size)
              have HL : Hid (StL (Fresh W1.heap.size w2.heap.size) d w2 y s.bd) := hl
              clear hl hb i0 i1 i2
              obtain ⟨i0, i1, i2⟩ := cells3 X2.out
              have iz := frz (j := 2) X2.out
              go_upto_region 18 with fail
              obtain ⟨W3, eV⟩ : ∃ V, V = w2.setCell ⟨gs, 2, none⟩ (.slice y s.bd.length yc) := ⟨_, rfl⟩
              try rw [← eV]
              have X3 : Hid (W3.heap[gs]? = some (.cells #[.int .i64 s.pl, .string s.nm, .slice y s.bd.length yc] 49 (0, 0))) := by rw [eV]; exact heap_setCell_same _ gs 2 _ _ _ X2.out
              have B3 : Hid (Below wr.heap.size wr W3) := by rw [eV]; exact G2.out.setCell (p := ⟨gs, 2, none⟩) GS.out.1 _
              have H3 : Hid (StL (Fresh wr.heap.size W3.heap.size) d W3 y s.bd) := by
                have sz : W3.heap.size = w2.heap.size := by rw [eV]; simp [World.setCell]
                rw [sz]
                exact (HL.out.fr (w' := W3) (fun q hq => by rw [eV]; exact World.cell?_of_block (Below.heap_setCell _ _ _ _ (by show q.block ≠ gs; have := hq.1; have := GS.out.2; omega)))).sub (up_s G1.out.size (Nat.le_refl _))
              clear eV i0 i1 i2 iz X1 X2 G1 G2 HL SQ
              obtain ⟨i0, i1, i2⟩ := cells3 X3.out
              obtain ⟨vss, ehs, hvn, how, hev⟩ := MI.out
              have EHS : Hid (vss.length = k) := ehs
              have HVN : Hid (∀ v ∈ vss, v.length = 3) := hvn
              have OW : Hid (wr.ownsRow (N2) 49 3 u k vss.flatten) := how
              have EV : Hid (∀ (i : Nat) vs e, vss[i]? = some vs → m.ac[i]? = some e → (AcP d) (fun b => Fresh (N2) wr.heap.size b ∧ u.ownBlock ≠ some b) wr e vs) := hev
              clear ehs hvn how hev MI
              have ew : wrap64 ((k : Int) + 1) = (k : Int) + 1 := by have := FW.out.2.2; have := LT.out; unfold wrap64; omega
              have LE : Hid (k + 1 ≤ 549755813888) := by have := FW.out.2.2; have := LT.out; show k + 1 ≤ _; omega
              have OW3 : Hid (∀ X : Obj, (W3.alloc X).ownsRow (N2) 49 3 u k vss.flatten) := fun X => (own_below OW.out B3.out).alloc X
              have NW : Hid (∀ j u, (acC s (.slice y s.bd.length yc) : List Value)[j]? = some u → (W3.alloc (.cells (acC s (.slice y s.bd.length yc)).toArray 49)).cell? ((⟨W3.heap.size, 0, none⟩ : Addr).add j) = some u) := mk_cellsC W3 _ _
              have BZ : Hid (∀ X : Obj, N2 ≤ (W3.alloc X).heap.size) := fun X => by have := ZW.out; have := B3.out.size; simp; omega
              have I : Hid _ := infoAc
              have C3 : Hid (Cy w gx x1 x2 (some a) m.ss.length m.ts.length m.ac.length c1 c2 c3 (.slice yy1 m.ss.length cc1) (.slice yy2 m.ts.length cc2) (u) W3) := CW.out.on B3.out
              obtain ⟨o0, o1, o2⟩ := cells3 C3.out.ox
              go_wp2_with (at_builtin; obtain ⟨i, z, hi, hz, hs', hy, hzc⟩ := I.out; refine wpList_append_own_at _ rfl _ _ 24 rfl (N2) 49 i z 3 48 Try.underlying24 hi hz hs' hy hzc (by decide) u k vss.flatten rfl (OW3.out _) ⟨W3.heap.size, 0, none⟩ 1 1 (acC s (.slice y s.bd.length yc)) rfl rfl NW.out (by intro u hu; simp at hu; rcases hu with h | h | h <;> subst h <;> rfl) (by have := LE.out; simp [maxLen]; omega) (by have := LE.out; omega) (BZ.out _) ?_; intro v' w7 q1 q2 q3 q4; obtain ⟨y7, n7, c7, rfl⟩ := ow_form q1; have Q1 : Hid _ := q1; have Q2 : Hid _ := q2; have Q4 : Hid _ := q4; clear q1 q2 q3 q4 hi hz hs' hy hzc o0 o1 o2; have C7 : Hid (Cy w gx x1 x2 (some a) m.ss.length m.ts.length m.ac.length c1 c2 c3 (.slice yy1 m.ss.length cc1) (.slice yy2 m.ts.length cc2) (u) w7) := (C3.out.on ((Below.refl _ _).alloc (Nat.le_refl _) _)).grown Q2.out (fun g e => Nat.le_trans NB.out (OW.out.lt g e).1) HX.out; obtain ⟨o0, o1, o2⟩ := cells3 C7.out.ox; have oz := frz (j := 2) C7.out.ox)
              try rw [ew]
              have b6 : Below W3.heap.size W3 (W3.alloc (.cells (acC s (.slice y s.bd.length yc)).toArray 49)) := (Below.refl _ _).alloc (Nat.le_refl _) _
              have MS : MkI 49 3 (AcP d) (N2) m.ac (k + 1) (.slice y7 n7 c7) w7 := MkI.step (keptAc d) EHS.out HVN.out EV.out OW.out.lt _ _ ES.out rfl ZW.out (B3.out.trans (b6.mono B3.out.size)) ⟨y, yc, rfl, (H3.out.fr (fun q hq => b6.cell hq.2)).sub (up_s (Nat.le_refl _) b6.size)⟩ Q2.out Q1.out Q4.out
              have FR : ∀ b, gx + 3 ≤ b → b < N2 → (w7.setCell ⟨gx + 2, 2, none⟩ (.slice y7 n7 c7)).heap[b]? = wr.heap[b]? := fun b h1 h2 => by
                have z1 := ZW.out
                have z2 := B3.out.size
                have z3 := b6.size
                exact (Below.heap_setCell _ _ _ _ (by show b ≠ gx + 2; omega)).trans ((Q2.out.block b (Nat.lt_of_lt_of_le h2 (BZ.out _)) (fun e => by have := (OW.out.lt b e.symm).1; omega)).trans ((b6.block b (by omega)).trans (B3.out.block b (by omega))))
              exact ⟨⟨k + 1, .slice y7 n7 c7, Nat.succ_le_of_lt LT.out, rfl, by rw [show (w7.setCell ⟨gx + 2, 2, none⟩ (.slice y7 n7 c7)).heap.size = w7.heap.size by simp [World.setCell]]; exact Nat.le_trans (BZ.out _) Q2.out.size, C7.out.put HX.out 2 _ rfl, MS.put (keptAc d) (by have := NB.out; omega) 2 _, rw_frK keptSp D0.out (fun q hq => World.cell?_of_block (FR _ hq.1 (Nat.lt_of_lt_of_le hq.2 NC.out.2))), rw_frK (keptTn d) D1.out (fun q hq => World.cell?_of_block (FR _ (Nat.le_trans NC.out.1 hq.1) hq.2))⟩, msr LT.out⟩
            · have kl : ¬ (k : Int) < m.ac.length := by omega
              have ek : k = m.ac.length := by omega
              subst ek
              obtain ⟨yy3, cc3, rfl, hy⟩ := MI.out.done (keptAc d) FW.out.2.2
              obtain ⟨N3, eN⟩ : ∃ n, n = wr.heap.size := ⟨_, rfl⟩
              rw [← eN] at hy
              have ZN : Hid (wr.heap.size = N3) := eN.symm
              have RR : Hid (RwF 3 (AcP d (Fresh (N2) N3) wr) (Fresh (N2) N3) wr yy3 m.ac) := hy
              clear hy hlt hk MI eN
              have C3 : Hid (Cy w gx x1 x2 x3 m.ss.length m.ts.length m.ac.length c1 c2 c3 (.slice yy1 m.ss.length cc1) (.slice yy2 m.ts.length cc2) (.slice yy3 m.ac.length cc3) wr) := CW.out
              obtain ⟨o0, o1, o2⟩ := cells3 C3.out.ox
              clear CW
              go_upto_region 20 with fail
              go_wp2_with (refine wpList_store_row rfl 26 _ _ rfl (gx + 1) _ rfl rfl _ _ C3.out.rx ch_info rfl (by simp [Value.oneCell']) ?_)
              have hz := setRow_heap wr (gx + 1) _ (#[.slice yy1 m.ss.length cc1, .slice yy2 m.ts.length cc2, .slice yy3 m.ac.length cc3]) _ _ C3.out.rx
              have BE : Hid (Below w.heap.size w (wr.setRow (gx + 1) #[.slice yy1 m.ss.length cc1, .slice yy2 m.ts.length cc2, .slice yy3 m.ac.length cc3])) := C3.out.b.trans ⟨rfl, rfl, rfl, by simp [World.setRow], fun k hk => setRow_other _ _ _ _ (by have := HX.out; omega)⟩
              have FR : ∀ b, gx + 3 ≤ b → (wr.setRow (gx + 1) #[.slice yy1 m.ss.length cc1, .slice yy2 m.ts.length cc2, .slice yy3 m.ac.length cc3]).heap[b]? = wr.heap[b]? := fun b hb => setRow_other _ _ _ _ (by omega)
              have SE : wr.heap.size ≤ (wr.setRow (gx + 1) #[.slice yy1 m.ss.length cc1, .slice yy2 m.ts.length cc2, .slice yy3 m.ac.length cc3]).heap.size := by simp [World.setRow]
              refine bodyPost_ret (v := .agg #[.slice yy1 m.ss.length cc1, .slice yy2 m.ts.length cc2, .slice yy3 m.ac.length cc3]) (results_cell_row Try.results4 _ _ (gx + 1) _ _ (0, 0) _ (by first | rfl | simp [Act.put]) hz Try.underlying26 rfl ch_info) rfl ?_
              have n1 := NC.out
              have n2 := ZN.out
              have n3 := ZW.out
              have n4 := HX.out
              have hQ : ChQ (Fresh w.heap.size (wr.setRow (gx + 1) #[.slice yy1 m.ss.length cc1, .slice yy2 m.ts.length cc2, .slice yy3 m.ac.length cc3]).heap.size) d (wr.setRow (gx + 1) #[.slice yy1 m.ss.length cc1, .slice yy2 m.ts.length cc2, .slice yy3 m.ac.length cc3]) m yy1 yy2 yy3 := ⟨rw_subK keptSp (up_s (by omega) (by omega)) (rw_frK keptSp D0.out (fun q hq => World.cell?_of_block (FR _ hq.1))), rw_subK (keptTn d) (up_s (by omega) (by omega)) (rw_frK (keptTn d) D1.out (fun q hq => World.cell?_of_block (FR _ (by have := hq.1; omega)))), rw_subK (keptAc d) (up_s (by omega) (by omega)) (rw_frK (keptAc d) RR.out (fun q hq => World.cell?_of_block (FR _ (by have := hq.1; omega))))⟩
              first | exact ⟨⟨yy1, cc1, yy2, cc2, yy3, ⟨cc3, rfl⟩, hQ⟩, BE.out⟩ | exact ⟨⟨yy1, cc1, yy2, cc2, yy3, cc3, rfl, hQ⟩, BE.out⟩
end Go.Proofs.Ytcoeinfopfcekaa
