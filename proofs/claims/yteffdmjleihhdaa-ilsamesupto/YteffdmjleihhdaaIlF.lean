/- il's sameness of instructions whose heads are alike; no statement of the seat is proved here. -/
import Derived.Test.YteffdmjleihhdaaIlE
namespace Go.Proofs.Yteffdmjleihhdaa
set_option linter.unusedVariables false
open Go.RowKit
theorem guardI {p q : Prop} (_ : p) (h : q) : q := h
theorem cells11 {w : World} {g : Nat} {t : TypeId} {v0 v1 v2 v3 v4 v5 v6 v7 v8 v9 v10 : Value} (h : w.heap[g]? = some (.cells #[v0, v1, v2, v3, v4, v5, v6, v7, v8, v9, v10] t (0, 0))) : w.cell? ⟨g, 0, none⟩ = some v0 ∧ w.cell? ⟨g, 1, none⟩ = some v1 ∧ w.cell? ⟨g, 2, none⟩ = some v2 ∧ w.cell? ⟨g, 3, none⟩ = some v3 ∧ w.cell? ⟨g, 4, none⟩ = some v4 ∧ w.cell? ⟨g, 5, none⟩ = some v5 ∧ w.cell? ⟨g, 6, none⟩ = some v6 ∧ w.cell? ⟨g, 7, none⟩ = some v7 ∧ w.cell? ⟨g, 8, none⟩ = some v8 ∧ w.cell? ⟨g, 9, none⟩ = some v9 ∧ w.cell? ⟨g, 10, none⟩ = some v10 := by
  refine ⟨?_, ?_, ?_, ?_, ?_, ?_, ?_, ?_, ?_, ?_, ?_⟩ <;> simp [World.cell?, h]
/-- Behind a call, and behind one ahead of which a row was made. -/
theorem stay {W V w' : World} {A : Nat} {o o' : Obj} (x : V.heap[A]? = some o) (y : V.heap[A + 1]? = some o') (b : Below W.heap.size W V) (hb : Below V.heap.size V w') : w'.heap[A]? = some o ∧ w'.heap[A + 1]? = some o' ∧ Below W.heap.size W w' :=
  ⟨(hb.block _ (lt_of_block x)).trans x, (hb.block _ (lt_of_block y)).trans y, b.trans (hb.mono b.size)⟩
theorem stayA {W V w' : World} {A : Nat} {o o' X : Obj} (x : V.heap[A]? = some o) (y : V.heap[A + 1]? = some o') (b : Below W.heap.size W V) (hb : Below (V.alloc X).heap.size (V.alloc X) w') : w'.heap[A]? = some o ∧ w'.heap[A + 1]? = some o' ∧ Below W.heap.size W w' :=
  stay ((Below.heap_alloc V X _ (lt_of_block x)).trans x) ((Below.heap_alloc V X _ (lt_of_block y)).trans y) (b.alloc b.size X) hb
theorem rowsA {w1 w2 : World} {X Y : Obj} (hb : Below (w1.alloc X).heap.size (w1.alloc X) w2) : (w2.alloc Y).heap[w1.heap.size]? = some X ∧ (w2.alloc Y).heap[w2.heap.size]? = some Y := by
  have z : w1.heap.size < (w1.alloc X).heap.size := by simp
  exact ⟨(Below.heap_alloc _ _ _ (Nat.lt_of_lt_of_le z hb.size)).trans ((hb.block _ z).trans (heap_alloc_last _ _)), heap_alloc_last _ _⟩
theorem rowsB (w2 : World) (X Y : Obj) : ((w2.alloc X).alloc Y).heap[w2.heap.size]? = some X ∧ ((w2.alloc X).alloc Y).heap[w2.heap.size + 1]? = some Y := by
  have q := heap_alloc_last (w2.alloc X) Y
  rw [show (w2.alloc X).heap.size = w2.heap.size + 1 by simp] at q
  exact ⟨(Below.heap_alloc _ _ _ (by simp)).trans (heap_alloc_last _ _), q⟩
section
variable (h h' : IH) (x1 x2 x3 x4 y1 y2 y3 y4 : Option Addr) (n1 n2 n3 n4 c1 c2 c3 c4 m1 m2 m3 m4 e1 e2 e3 e4 : Nat) (w : World)
set_option maxRecDepth 20000 in
set_option maxHeartbeats 16000000 in
theorem sameI (r : Bool) (f1 : (h.lb.toList == h'.lb.toList) = true) (f2 : (h.op.toList == h'.op.toList) = true) (f3 : (h.nt == h'.nt) = true) (f4 : (h.cd == h'.cd) = true) (f5 : (h.ob == h'.ob) = true)
    (P : ∀ W g1 g2, Below w.heap.size w W → W.heap[g1]? = some (.cells #[.int .i64 10, .int .i64 0, .string h.nm, .int .i64 0, .slice x1 n1 c1, .slice x2 n2 c2, .slice x3 n3 c3, .slice x4 n4 c4, .slice none 0 0, .slice none 0 0, .slice none 0 0, .int .u8 0, .int .i64 0, .int .i64 0] 38) → W.heap[g2]? = some (.cells #[.int .i64 10, .int .i64 0, .string h'.nm, .int .i64 0, .slice y1 m1 e1, .slice y2 m2 e2, .slice y3 m3 e3, .slice y4 m4 e4, .slice none 0 0, .slice none 0 0, .slice none 0 0, .int .u8 0, .int .i64 0, .int .i64 0] 38) → Calls Try.prog 17 #[.slice (some ⟨g1, 0, none⟩) 1 1, .slice (some ⟨g2, 0, none⟩) 1 1] W fun e w' => e = .returned (.bool r) ∧ Below W.heap.size W w') :
    Calls Try.prog 11 #[IV h (.slice x1 n1 c1) (.slice x2 n2 c2) (.slice x3 n3 c3) (.slice x4 n4 c4), IV h' (.slice y1 m1 e1) (.slice y2 m2 e2) (.slice y3 m3 e3) (.slice y4 m4 e4)] w fun e w' => e = .returned (.bool r) ∧ Below w.heap.size w w' := by
  have HP : Hid (∀ W g1 g2, Below w.heap.size w W → W.heap[g1]? = some (.cells #[.int .i64 10, .int .i64 0, .string h.nm, .int .i64 0, .slice x1 n1 c1, .slice x2 n2 c2, .slice x3 n3 c3, .slice x4 n4 c4, .slice none 0 0, .slice none 0 0, .slice none 0 0, .int .u8 0, .int .i64 0, .int .i64 0] 38) → W.heap[g2]? = some (.cells #[.int .i64 10, .int .i64 0, .string h'.nm, .int .i64 0, .slice y1 m1 e1, .slice y2 m2 e2, .slice y3 m3 e3, .slice y4 m4 e4, .slice none 0 0, .slice none 0 0, .slice none 0 0, .int .u8 0, .int .i64 0, .int .i64 0] 38) → Calls Try.prog 17 #[.slice (some ⟨g1, 0, none⟩) 1 1, .slice (some ⟨g2, 0, none⟩) 1 1] W fun e w' => e = .returned (.bool r) ∧ Below W.heap.size W w') := P
  clear P
  obtain ⟨W, eW⟩ : ∃ W, W = (w.alloc (.cells #[.int .i64 h.pl, .string h.lb, .string h.op, .bool h.nt, .bool h.cd, .bool h.ob, .string h.nm, .slice x1 n1 c1, .slice x2 n2 c2, .slice x3 n3 c3, .slice x4 n4 c4] 28)).alloc (.cells #[.int .i64 h'.pl, .string h'.lb, .string h'.op, .bool h'.nt, .bool h'.cd, .bool h'.ob, .string h'.nm, .slice y1 m1 e1, .slice y2 m2 e2, .slice y3 m3 e3, .slice y4 m4 e4] 28) := ⟨_, rfl⟩
  have BW : Hid (Below w.heap.size w W) := by rw [eW]; exact ((Below.refl _ _).alloc (Nat.le_refl _) _).alloc (by simp) _
  have OX : Hid (W.heap[w.heap.size]? = some (.cells #[.int .i64 h.pl, .string h.lb, .string h.op, .bool h.nt, .bool h.cd, .bool h.ob, .string h.nm, .slice x1 n1 c1, .slice x2 n2 c2, .slice x3 n3 c3, .slice x4 n4 c4] 28 (0, 0))) := by rw [eW]; exact (rowsB w _ _).1
  have OY : Hid (W.heap[w.heap.size + 1]? = some (.cells #[.int .i64 h'.pl, .string h'.lb, .string h'.op, .bool h'.nt, .bool h'.cd, .bool h'.ob, .string h'.nm, .slice y1 m1 e1, .slice y2 m2 e2, .slice y3 m3 e3, .slice y4 m4 e4] 28 (0, 0))) := by rw [eW]; exact (rowsB w _ _).2
  obtain ⟨Oa0, Oa1, Oa2, Oa3, Oa4, Oa5, Oa6, Oa7, Oa8, Oa9, Oa10⟩ := cells11 OX.out; obtain ⟨Ob0, Ob1, Ob2, Ob3, Ob4, Ob5, Ob6, Ob7, Ob8, Ob9, Ob10⟩ := cells11 OY.out
  have zA : w.heap.size < W.heap.size := lt_of_block OX.out
  have zB : w.heap.size + 1 < W.heap.size := lt_of_block OY.out
  go_enter Try.func11, Try.ntmps11
  go_wp2_with fail
  rw [← eW]
  clear eW
  have nA := World.new_ne W ⟨w.heap.size, 0, none⟩ Oa0
  have nB := World.new_ne W ⟨w.heap.size + 1, 0, none⟩ Ob0
  go_region_held3 (fun W => W.cell? ⟨w.heap.size, 0, none⟩ = some (.int .i64 h.pl) ∧ W.cell? ⟨w.heap.size, 1, none⟩ = some (.string h.lb) ∧ W.cell? ⟨w.heap.size, 2, none⟩ = some (.string h.op) ∧ W.cell? ⟨w.heap.size, 3, none⟩ = some (.bool h.nt) ∧ W.cell? ⟨w.heap.size, 4, none⟩ = some (.bool h.cd) ∧ W.cell? ⟨w.heap.size, 5, none⟩ = some (.bool h.ob) ∧ W.cell? ⟨w.heap.size, 6, none⟩ = some (.string h.nm) ∧ W.cell? ⟨w.heap.size, 7, none⟩ = some (.slice x1 n1 c1) ∧ W.cell? ⟨w.heap.size, 8, none⟩ = some (.slice x2 n2 c2) ∧ W.cell? ⟨w.heap.size, 9, none⟩ = some (.slice x3 n3 c3) ∧ W.cell? ⟨w.heap.size, 10, none⟩ = some (.slice x4 n4 c4) ∧ W.cell? ⟨w.heap.size + 1, 0, none⟩ = some (.int .i64 h'.pl) ∧ W.cell? ⟨w.heap.size + 1, 1, none⟩ = some (.string h'.lb) ∧ W.cell? ⟨w.heap.size + 1, 2, none⟩ = some (.string h'.op) ∧ W.cell? ⟨w.heap.size + 1, 3, none⟩ = some (.bool h'.nt) ∧ W.cell? ⟨w.heap.size + 1, 4, none⟩ = some (.bool h'.cd) ∧ W.cell? ⟨w.heap.size + 1, 5, none⟩ = some (.bool h'.ob) ∧ W.cell? ⟨w.heap.size + 1, 6, none⟩ = some (.string h'.nm) ∧ W.cell? ⟨w.heap.size + 1, 7, none⟩ = some (.slice y1 m1 e1) ∧ W.cell? ⟨w.heap.size + 1, 8, none⟩ = some (.slice y2 m2 e2) ∧ W.cell? ⟨w.heap.size + 1, 9, none⟩ = some (.slice y3 m3 e3) ∧ W.cell? ⟨w.heap.size + 1, 10, none⟩ = some (.slice y4 m4 e4)) (go_keep)
    (first
      | (go_at_call 18; refine (guardI PX.out (call_of _ _ _ _ _ _ _ _ _ _ _ _ _ _)).mono ?_; rintro e w2 ⟨rfl, hb2⟩
         have QQ : w2.heap[w.heap.size]? = some (.cells #[.int .i64 h.pl, .string h.lb, .string h.op, .bool h.nt, .bool h.cd, .bool h.ob, .string h.nm, .slice x1 n1 c1, .slice x2 n2 c2, .slice x3 n3 c3, .slice x4 n4 c4] 28 (0, 0)) ∧ w2.heap[w.heap.size + 1]? = some (.cells #[.int .i64 h'.pl, .string h'.lb, .string h'.op, .bool h'.nt, .bool h'.cd, .bool h'.ob, .string h'.nm, .slice y1 m1 e1, .slice y2 m2 e2, .slice y3 m3 e3, .slice y4 m4 e4] 28 (0, 0)) ∧ Below W.heap.size W w2 := by first | exact stay PX.out PY.out PB.out hb2 | exact stayA PX.out PY.out PB.out hb2
         obtain ⟨qx, qy, qb⟩ := QQ
         have QX : Hid (w2.heap[w.heap.size]? = some (.cells #[.int .i64 h.pl, .string h.lb, .string h.op, .bool h.nt, .bool h.cd, .bool h.ob, .string h.nm, .slice x1 n1 c1, .slice x2 n2 c2, .slice x3 n3 c3, .slice x4 n4 c4] 28 (0, 0))) := qx
         have QY : Hid (w2.heap[w.heap.size + 1]? = some (.cells #[.int .i64 h'.pl, .string h'.lb, .string h'.op, .bool h'.nt, .bool h'.cd, .bool h'.ob, .string h'.nm, .slice y1 m1 e1, .slice y2 m2 e2, .slice y3 m3 e3, .slice y4 m4 e4] 28 (0, 0))) := qy
         have QB : Hid (Below W.heap.size W w2) := qb
         have HB2 : Hid _ := hb2
         clear qx qy qb hb2
         obtain ⟨Qa0, Qa1, Qa2, Qa3, Qa4, Qa5, Qa6, Qa7, Qa8, Qa9, Qa10⟩ := cells11 QX.out; obtain ⟨Qb0, Qb1, Qb2, Qb3, Qb4, Qb5, Qb6, Qb7, Qb8, Qb9, Qb10⟩ := cells11 QY.out
         have nE := World.new_ne w2 ⟨w.heap.size, 0, none⟩ Qa0
         have nF := World.new_ne w2 ⟨w.heap.size + 1, 0, none⟩ Qb0)
      | (go_at_call 18; refine (call_of _ _ _ _ _ _ _ _ _ _ _ _ _ _).mono ?_; rintro e w1 ⟨rfl, hb1⟩
         obtain ⟨px, py, pb⟩ := stay (W := W) (V := W.drew) OX.out OY.out (Below.refl _ _).drew hb1
         have PX : Hid (w1.heap[w.heap.size]? = some (.cells #[.int .i64 h.pl, .string h.lb, .string h.op, .bool h.nt, .bool h.cd, .bool h.ob, .string h.nm, .slice x1 n1 c1, .slice x2 n2 c2, .slice x3 n3 c3, .slice x4 n4 c4] 28 (0, 0))) := px
         have PY : Hid (w1.heap[w.heap.size + 1]? = some (.cells #[.int .i64 h'.pl, .string h'.lb, .string h'.op, .bool h'.nt, .bool h'.cd, .bool h'.ob, .string h'.nm, .slice y1 m1 e1, .slice y2 m2 e2, .slice y3 m3 e3, .slice y4 m4 e4] 28 (0, 0))) := py
         have PB : Hid (Below W.heap.size W w1) := pb
         clear px py pb hb1
         obtain ⟨Pa0, Pa1, Pa2, Pa3, Pa4, Pa5, Pa6, Pa7, Pa8, Pa9, Pa10⟩ := cells11 PX.out; obtain ⟨Pb0, Pb1, Pb2, Pb3, Pb4, Pb5, Pb6, Pb7, Pb8, Pb9, Pb10⟩ := cells11 PY.out
         have nC := World.new_ne w1 ⟨w.heap.size, 0, none⟩ Pa0
         have nD := World.new_ne w1 ⟨w.heap.size + 1, 0, none⟩ Pb0)
      | (go_at_call 17
         first
           | refine (HP.out _ _ _ (BW.out.trans ((QB.out.alloc QB.out.size _).mono BW.out.size)) (rowsA HB2.out).1 (rowsA HB2.out).2).mono ?_
           | refine (HP.out _ _ _ (BW.out.trans (((QB.out.alloc QB.out.size _).alloc (Nat.le_trans QB.out.size (by simp)) _).mono BW.out.size)) (rowsB w2 _ _).1 (rowsB w2 _ _).2).mono ?_
           | refine (HP.out _ _ _ (BW.out.trans (((QB.out.alloc QB.out.size _).alloc (Nat.le_trans QB.out.size (by simp)) _).mono BW.out.size)) (rowsB w2 _ _).2 (rowsB w2 _ _).1).mono ?_
         rintro e w3 ⟨rfl, hb3⟩
         have B3 : Hid (Below w2.heap.size w2 w3) := by first | exact ((Below.refl _ _).alloc (Nat.le_refl _) _).trans (hb3.mono (by simp)) | exact (((Below.refl _ _).alloc (Nat.le_refl _) _).alloc (by simp) _).trans (hb3.mono (by simp; omega))
         clear hb3
         obtain ⟨rx, ry, rb⟩ := stay QX.out QY.out QB.out B3.out
         have RX : Hid (w3.heap[w.heap.size]? = some (.cells #[.int .i64 h.pl, .string h.lb, .string h.op, .bool h.nt, .bool h.cd, .bool h.ob, .string h.nm, .slice x1 n1 c1, .slice x2 n2 c2, .slice x3 n3 c3, .slice x4 n4 c4] 28 (0, 0))) := rx
         have RY : Hid (w3.heap[w.heap.size + 1]? = some (.cells #[.int .i64 h'.pl, .string h'.lb, .string h'.op, .bool h'.nt, .bool h'.cd, .bool h'.ob, .string h'.nm, .slice y1 m1 e1, .slice y2 m2 e2, .slice y3 m3 e3, .slice y4 m4 e4] 28 (0, 0))) := ry
         have RB : Hid (Below W.heap.size W w3) := rb
         clear rx ry rb
         obtain ⟨Ra0, Ra1, Ra2, Ra3, Ra4, Ra5, Ra6, Ra7, Ra8, Ra9, Ra10⟩ := cells11 RX.out; obtain ⟨Rb0, Rb1, Rb2, Rb3, Rb4, Rb5, Rb6, Rb7, Rb8, Rb9, Rb10⟩ := cells11 RY.out))
  all_goals
    go_wp2
    go_ret
    exact ⟨rfl, BW.out.trans (RB.out.mono BW.out.size)⟩
end
end Go.Proofs.Yteffdmjleihhdaa
