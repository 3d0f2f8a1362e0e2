/- How lists of instructions read as arguments; no statement of the seat is proved here. -/
import Derived.Test.YteffdmjleihhdaaTrY
import Derived.Test.YteffdmjleihhdaaIlA
namespace Go.Proofs.Yteffdmjleihhdaa
set_option linter.unusedVariables false
open Go.RowKit Go.ChangeShapes Go.WideShapes Go.ChangeAt
section
variable {H : Type} {enc : TypeId × Value → H} {w : World} {base : Nat} {spare : Nat → Bool} {held : Bool}
theorem fieldsI : ((Try.prog.fieldsOf 28).map (fun f => (f.type, f.offset))).toList = [(3, 0), (9, 1), (9, 2), (4, 3), (4, 4), (4, 5), (9, 6), (25, 7), (26, 8), (25, 9), (26, 10)] := by kernel_rfl
theorem at11 (a : Addr) (i j : Nat) (h : 0 < j) : a.add (i * 11 + j) = ⟨(a.add (i * 11)).block, (a.add (i * 11)).off + j, none⟩ := by rw [← add_off, add_pos _ j h]
set_option maxRecDepth 100000 in
theorem rd_ils (fuel : Nat) (v : Value) (x : DataW H × List MemPlace) (D : Nat) (h : DataW.trod enc Try.prog w base spare held fuel 22 [v] = some x) (hb : Rows.uptoBulk x.1 ≤ 15 * D) (hD : D ≤ 131072) :
    ∃ a l c, v = .slice a (List.length l) c ∧ IlL (fun b => b < w.heap.size) D w a l := by
  rcases rd_slice Try.underlying22 11 (by kernel_rfl) h with rfl | ⟨a, len, cap, m, hm, rfl, hl, hi⟩
  · exact ⟨none, [], 0, rfl, by decide, fun _ => rfl, fun b e => by cases e⟩
  · obtain ⟨l, hn, hp⟩ := pick_lt (fun i (e : Il) => IlF (fun b => b < w.heap.size) D w (a.add (i * 11)) e) len fun i hlt => by
      obtain ⟨cs, y, g, hc, ht, hy⟩ := hi i hlt
      obtain ⟨xs, m2, hm2, hx, _, hxl, hf⟩ := rd_struct (by kernel_rfl) fieldsI ht
      match cs, hc with
      | [c0, c1, c2, c3, c4, c5, c6, c7, c8, c9, c10], _ =>
        match xs, hxl with
        | [y0, y1, y2, y3, y4, y5, y6, y7, y8, y9, y10], _ =>
          have k0 : DataW.trod enc Try.prog w base spare held m2 3 [c0] = some y0 := hf 0 _ _ rfl
          have k1 : DataW.trod enc Try.prog w base spare held m2 9 [c1] = some y1 := hf 1 _ _ rfl
          have k2 : DataW.trod enc Try.prog w base spare held m2 9 [c2] = some y2 := hf 2 _ _ rfl
          have k3 : DataW.trod enc Try.prog w base spare held m2 4 [c3] = some y3 := hf 3 _ _ rfl
          have k4 : DataW.trod enc Try.prog w base spare held m2 4 [c4] = some y4 := hf 4 _ _ rfl
          have k5 : DataW.trod enc Try.prog w base spare held m2 4 [c5] = some y5 := hf 5 _ _ rfl
          have k6 : DataW.trod enc Try.prog w base spare held m2 9 [c6] = some y6 := hf 6 _ _ rfl
          have k7 : DataW.trod enc Try.prog w base spare held m2 25 [c7] = some y7 := hf 7 _ _ rfl
          have k8 : DataW.trod enc Try.prog w base spare held m2 26 [c8] = some y8 := hf 8 _ _ rfl
          have k9 : DataW.trod enc Try.prog w base spare held m2 25 [c9] = some y9 := hf 9 _ _ rfl
          have k10 : DataW.trod enc Try.prog w base spare held m2 26 [c10] = some y10 := hf 10 _ _ rfl
          simp only [hx, List.map_cons, List.map_nil, Rows.uptoBulk, Rows.uptoBulkAll] at hy
          have o0 := one_le y0.1
          have o1 := one_le y1.1
          have o2 := one_le y2.1
          have o3 := one_le y3.1
          have o4 := one_le y4.1
          have o5 := one_le y5.1
          have o6 := one_le y6.1
          have o7 := one_le y7.1
          have o8 := one_le y8.1
          have o9 := one_le y9.1
          have o10 := one_le y10.1
          obtain ⟨a1, es, g1, rfl, q1⟩ := rd_exprs m2 c7 y7 D k7 (by omega) (by omega)
          obtain ⟨a2, ns, g2, rfl, q2, f2⟩ := rd_texts k8 (by omega)
          obtain ⟨a3, os, g3, rfl, q3⟩ := rd_exprs m2 c9 y9 D k9 (by omega) (by omega)
          obtain ⟨a4, on, g4, rfl, q4, f4⟩ := rd_texts k10 (by omega)
          obtain ⟨z0, e0, _⟩ := DataW.trod_int Try.underlying3 k0
          obtain ⟨z1, e1, _⟩ := DataW.trod_string Try.underlying9 k1
          obtain ⟨z2, e2, _⟩ := DataW.trod_string Try.underlying9 k2
          obtain ⟨z3, e3, _⟩ := DataW.trod_bool Try.underlying4 k3
          obtain ⟨z4, e4, _⟩ := DataW.trod_bool Try.underlying4 k4
          obtain ⟨z5, e5, _⟩ := DataW.trod_bool Try.underlying4 k5
          obtain ⟨z6, e6, _⟩ := DataW.trod_string Try.underlying9 k6
          simp only [List.cons.injEq, and_true] at e0 e1 e2 e3 e4 e5 e6
          subst e0 e1 e2 e3 e4 e5 e6
          have c_0 : w.cell? (a.add (i * 11)) = some (.int .i64 z0) := by simpa using g 0 (by decide)
          refine ⟨⟨⟨z0, z1, z2, z3, z4, z5, z6⟩, es, ns, os, on⟩, by show (a.add (i * 11)).block < _; exact block_lt_of_cell c_0, a1, g1, a2, g2, a3, g3, a4, g4, ⟨c_0, by have := g 1 (by decide); rw [at11 a i 1 (by decide)] at this; exact this, by have := g 2 (by decide); rw [at11 a i 2 (by decide)] at this; exact this, by have := g 3 (by decide); rw [at11 a i 3 (by decide)] at this; exact this, by have := g 4 (by decide); rw [at11 a i 4 (by decide)] at this; exact this, by have := g 5 (by decide); rw [at11 a i 5 (by decide)] at this; exact this, by have := g 6 (by decide); rw [at11 a i 6 (by decide)] at this; exact this, by have := g 7 (by decide); rw [at11 a i 7 (by decide)] at this; exact this, by have := g 8 (by decide); rw [at11 a i 8 (by decide)] at this; exact this, by have := g 9 (by decide); rw [at11 a i 9 (by decide)] at this; exact this, by have := g 10 (by decide); rw [at11 a i 10 (by decide)] at this; exact this⟩, q1, ⟨q2, f2⟩, q3, ⟨q4, f4⟩⟩
    refine ⟨some a, l, cap, by rw [hn], by show l.length < _; omega, fun e => (by cases e), fun b e i s hs => ?_⟩
    cases e
    exact hp i s hs
end
end Go.Proofs.Yteffdmjleihhdaa
