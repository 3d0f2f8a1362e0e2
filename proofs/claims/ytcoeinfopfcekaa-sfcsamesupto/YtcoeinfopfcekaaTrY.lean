/- How trees of statements read as arguments; no statement of the seat is proved here. -/
import Derived.Test.YtcoeinfopfcekaaTrU0
import Derived.Test.YtcoeinfopfcekaaRdA
namespace Go.Proofs.Ytcoeinfopfcekaa
set_option linter.unusedVariables false
open Go.RowKit Go.ChangeShapes Go.WideShapes Go.ChangeAt
section
variable {H : Type} {enc : TypeId × Value → H} {w : World} {base : Nat} {spare : Nat → Bool} {held : Bool}
/-- Texts in a row. -/
theorem rd_texts {fuel : Nat} {v : Value} {x : DataW H × List MemPlace} (h : DataW.trod enc Try.prog w base spare held fuel 35 [v] = some x) (hb : Rows.uptoBulk x.1 ≤ 1966080) :
    ∃ a ns c, v = .slice a (List.length ns) c ∧ NmF (fun b => b < w.heap.size) w a ns ∧ few ns.length := by
  rcases rd_slice Try.underlying35 1 (by kernel_rfl) h with rfl | ⟨a, len, cap, m, _, rfl, hl, hi⟩
  · exact ⟨none, [], 0, rfl, ⟨⟨fun _ => rfl, fun a e => by cases e⟩, fun a e => by cases e⟩, by decide⟩
  · obtain ⟨ns, hn, hp⟩ := pick_lt (fun i s => w.cell? (a.add i) = some (.string s)) len fun i hlt => by
      obtain ⟨cs, y, g, hc, ht, _⟩ := hi i hlt
      obtain ⟨s, rfl, _⟩ := DataW.trod_string Try.underlying9 ht
      exact ⟨s, by simpa using g 0 (by decide)⟩
    refine ⟨some a, ns, cap, by rw [hn], ⟨⟨fun e => (by cases e), fun a' e i s hs => ?_⟩, fun a' e i s hs => ?_⟩, by omega⟩
    · cases e; exact hp i s hs
    · cases e; exact blk (hp i s hs)
theorem rg_ex : ∀ (l : List (Int × Int)) (j : Nat) (u : Value), (rgL l)[j]? = some u → ∃ i r, l[i]? = some r ∧ (j = i * 2 ∧ u = .int .i64 r.1 ∨ j = i * 2 + 1 ∧ u = .int .i64 r.2)
  | [], j, u, h => by simp [rgL] at h
  | r :: l, 0, u, h => by simp [rgL] at h; exact ⟨0, r, rfl, .inl ⟨rfl, h.symm⟩⟩
  | r :: l, 1, u, h => by simp [rgL] at h; exact ⟨0, r, rfl, .inr ⟨rfl, h.symm⟩⟩
  | r :: l, j + 2, u, h => by
    obtain ⟨i, r', h1, h2⟩ := rg_ex l j u (by simpa [rgL] using h)
    refine ⟨i + 1, r', by simpa using h1, ?_⟩
    rcases h2 with ⟨rfl, e⟩ | ⟨rfl, e⟩
    · exact .inl ⟨by omega, e⟩
    · exact .inr ⟨by omega, e⟩
/-- Ranges in a row. -/
theorem rd_ranges {fuel : Nat} {v : Value} {x : DataW H × List MemPlace} (h : DataW.trod enc Try.prog w base spare held fuel 63 [v] = some x) (hb : Rows.uptoBulk x.1 ≤ 1966080) :
    ∃ a rs c, v = .slice a (List.length rs) c ∧ RgF (fun b => b < w.heap.size) w a rs ∧ few rs.length := by
  rcases rd_slice Try.underlying63 2 (by kernel_rfl) h with rfl | ⟨a, len, cap, m, _, rfl, hl, hi⟩
  · exact ⟨none, [], 0, rfl, ⟨⟨fun _ => rfl, fun a e => by cases e⟩, fun a e => by cases e⟩, by decide⟩
  · obtain ⟨rs, hn, hp⟩ := pick_lt (fun i (r : Int × Int) => w.cell? (a.add (i * 2)) = some (.int .i64 r.1) ∧ w.cell? (a.add (i * 2 + 1)) = some (.int .i64 r.2)) len fun i hlt => by
      obtain ⟨cs, y, g, hc, ht, _⟩ := hi i hlt
      obtain ⟨y0, y1, n, _, _, h0, h1⟩ := trod_struct2 Try.underlying68 ht
      match cs, hc with
      | [c0, c1], _ =>
        have k0 : DataW.trod enc Try.prog w base spare held n 3 [c0] = some y0 := h0
        have k1 : DataW.trod enc Try.prog w base spare held n 3 [c1] = some y1 := h1
        obtain ⟨z0, e0, _⟩ := DataW.trod_int Try.underlying3 k0
        obtain ⟨z1, e1, _⟩ := DataW.trod_int Try.underlying3 k1
        simp at e0 e1
        subst e0 e1
        exact ⟨(z0, z1), by simpa using g 0 (by decide), by simpa using g 1 (by decide)⟩
    have cl : ∀ j u, (rgL rs)[j]? = some u → w.cell? (a.add j) = some u := fun j u hu => by
      obtain ⟨i, r, h1, h2⟩ := rg_ex rs j u hu
      rcases h2 with ⟨rfl, rfl⟩ | ⟨rfl, rfl⟩
      · exact (hp i r h1).1
      · exact (hp i r h1).2
    refine ⟨some a, rs, cap, by rw [hn], ⟨⟨fun e => (by cases e), fun a' e j u hu => ?_⟩, fun a' e j u hu => ?_⟩, by omega⟩
    · cases e; exact cl j u hu
    · cases e; exact blk (cl j u hu)
theorem fieldsE : ((Try.prog.fieldsOf 42).map (fun f => (f.type, f.offset))).toList = [(3, 0), (3, 1), (9, 2), (9, 3), (39, 4), (40, 7), (35, 8), (36, 9), (3, 10), (3, 11), (3, 12), (3, 13)] := by kernel_rfl
theorem at14 (a : Addr) (i j : Nat) (h : 0 < j) : a.add (i * 14 + j) = ⟨(a.add (i * 14)).block, (a.add (i * 14)).off + j, none⟩ := by rw [← add_off, add_pos _ j h]
set_option maxRecDepth 100000 in
/-- Expressions in a row, of any depth: the bulk bounds it. -/
theorem rd_exprs : ∀ (fuel : Nat) (v : Value) (x : DataW H × List MemPlace) (D : Nat), DataW.trod enc Try.prog w base spare held fuel 40 [v] = some x → Rows.uptoBulk x.1 ≤ 15 * D → D ≤ 131072 →
    ∃ a l c, v = .slice a (List.length l) c ∧ KdF (fun b => b < w.heap.size) D w a l := by
  intro fuel
  induction fuel using Nat.strongRecOn with
  | _ fuel ih =>
    intro v x D h hb hD
    rcases rd_slice Try.underlying40 14 (by kernel_rfl) h with rfl | ⟨a, len, cap, m, hm, rfl, hl, hi⟩
    · exact ⟨none, [], 0, rfl, by decide, fun _ => rfl, fun b e => by cases e⟩
    · obtain ⟨d, rfl⟩ : ∃ d, D = d + 1 := ⟨D - 1, by omega⟩
      obtain ⟨l, hn, hp⟩ := pick_lt (fun i (e : Ex) => ExF (fun b => b < w.heap.size) (d + 1) w (a.add (i * 14)) e) len fun i hlt => by
        obtain ⟨cs, y, g, hc, ht, hy⟩ := hi i hlt
        obtain ⟨xs, m2, hm2, hx, _, hxl, hf⟩ := rd_struct (by kernel_rfl) fieldsE ht
        match cs, hc with
        | [c0, c1, c2, c3, c4, c5, c6, c7, c8, c9, c10, c11, c12, c13], _ =>
          match xs, hxl with
          | [y0, y1, y2, y3, y4, y5, y6, y7, y8, y9, y10, y11], _ =>
            have k0 : DataW.trod enc Try.prog w base spare held m2 3 [c0] = some y0 := hf 0 _ _ rfl
            have k1 : DataW.trod enc Try.prog w base spare held m2 3 [c1] = some y1 := hf 1 _ _ rfl
            have k2 : DataW.trod enc Try.prog w base spare held m2 9 [c2] = some y2 := hf 2 _ _ rfl
            have k3 : DataW.trod enc Try.prog w base spare held m2 9 [c3] = some y3 := hf 3 _ _ rfl
            have k4 : DataW.trod enc Try.prog w base spare held m2 39 [c4, c5, c6] = some y4 := hf 4 _ _ rfl
            have k5 : DataW.trod enc Try.prog w base spare held m2 40 [c7] = some y5 := hf 5 _ _ rfl
            have k6 : DataW.trod enc Try.prog w base spare held m2 35 [c8] = some y6 := hf 6 _ _ rfl
            have k7 : DataW.trod enc Try.prog w base spare held m2 36 [c9] = some y7 := hf 7 _ _ rfl
            have k8 : DataW.trod enc Try.prog w base spare held m2 3 [c10] = some y8 := hf 8 _ _ rfl
            have k9 : DataW.trod enc Try.prog w base spare held m2 3 [c11] = some y9 := hf 9 _ _ rfl
            have k10 : DataW.trod enc Try.prog w base spare held m2 3 [c12] = some y10 := hf 10 _ _ rfl
            have k11 : DataW.trod enc Try.prog w base spare held m2 3 [c13] = some y11 := hf 11 _ _ rfl
            obtain ⟨xs4, m4, _, hx4, _, hl4, hf4⟩ := rd_struct (by kernel_rfl) fieldsV k4
            match xs4, hl4 with
            | [u0, u1, u2], _ =>
              have j0 : DataW.trod enc Try.prog w base spare held m4 36 [c4] = some u0 := hf4 0 _ _ rfl
              have j1 : DataW.trod enc Try.prog w base spare held m4 37 [c5] = some u1 := hf4 1 _ _ rfl
              have j2 : DataW.trod enc Try.prog w base spare held m4 9 [c6] = some u2 := hf4 2 _ _ rfl
              simp only [hx4, hx, List.map_cons, List.map_nil, Rows.uptoBulk, Rows.uptoBulkAll] at hy
              have o0 := one_le y0.1
              have o1 := one_le y1.1
              have o2 := one_le y2.1
              have o3 := one_le y3.1
              have o5 := one_le y5.1
              have o6 := one_le y6.1
              have o7 := one_le y7.1
              have o8 := one_le y8.1
              have o9 := one_le y9.1
              have o10 := one_le y10.1
              have o11 := one_le y11.1
              have p0 := one_le u0.1
              have p1 := one_le u1.1
              have p2 := one_le u2.1
              have o4 : 4 ≤ Rows.uptoBulk y4.1 := by rw [hx4]; simp only [List.map_cons, List.map_nil, Rows.uptoBulk, Rows.uptoBulkAll]; omega
              obtain ⟨b1, kl, b2, rfl, hk⟩ := ih m2 (by omega) c7 y5 d k5 (by omega) (by omega)
              obtain ⟨b3, ns, b4, rfl, hns, f1⟩ := rd_texts k6 (by omega)
              obtain ⟨z0, e0, _⟩ := DataW.trod_int Try.underlying3 k0
              obtain ⟨z1, e1, _⟩ := DataW.trod_int Try.underlying3 k1
              obtain ⟨z2, e2, _⟩ := DataW.trod_string Try.underlying9 k2
              obtain ⟨z3, e3, _⟩ := DataW.trod_string Try.underlying9 k3
              obtain ⟨z4, e4, _⟩ := DataW.trod_int Try.underlying36 j0
              obtain ⟨z5, e5, _⟩ := DataW.trod_int Try.underlying37 j1
              obtain ⟨z6, e6, _⟩ := DataW.trod_string Try.underlying9 j2
              obtain ⟨z9, e9, _⟩ := DataW.trod_int Try.underlying36 k7
              obtain ⟨z10, e10, _⟩ := DataW.trod_int Try.underlying3 k8
              obtain ⟨z11, e11, _⟩ := DataW.trod_int Try.underlying3 k9
              obtain ⟨z12, e12, _⟩ := DataW.trod_int Try.underlying3 k10
              obtain ⟨z13, e13, _⟩ := DataW.trod_int Try.underlying3 k11
              simp only [List.cons.injEq, and_true] at e0 e1 e2 e3 e4 e5 e6 e9 e10 e11 e12 e13
              subst e0 e1 e2 e3 e4 e5 e6 e9 e10 e11 e12 e13
              have c_0 : w.cell? (a.add (i * 14)) = some (.int .i64 z0) := by simpa using g 0 (by decide)
              refine ⟨.mk ⟨z0, z1, z2, z3, z4, z5, z6, z9, z10, z11, z12, z13⟩ ns kl, by show (a.add (i * 14)).block < _; exact block_lt_of_cell c_0, b1, b2, b3, b4, ⟨c_0, by have := g 1 (by decide); rw [at14 a i 1 (by decide)] at this; exact this, by have := g 2 (by decide); rw [at14 a i 2 (by decide)] at this; exact this, by have := g 3 (by decide); rw [at14 a i 3 (by decide)] at this; exact this, by have := g 4 (by decide); rw [at14 a i 4 (by decide)] at this; exact this, by have := g 5 (by decide); rw [at14 a i 5 (by decide)] at this; exact this, by have := g 6 (by decide); rw [at14 a i 6 (by decide)] at this; exact this, by have := g 7 (by decide); rw [at14 a i 7 (by decide)] at this; exact this, by have := g 8 (by decide); rw [at14 a i 8 (by decide)] at this; exact this, by have := g 9 (by decide); rw [at14 a i 9 (by decide)] at this; exact this, by have := g 10 (by decide); rw [at14 a i 10 (by decide)] at this; exact this, by have := g 11 (by decide); rw [at14 a i 11 (by decide)] at this; exact this, by have := g 12 (by decide); rw [at14 a i 12 (by decide)] at this; exact this, by have := g 13 (by decide); rw [at14 a i 13 (by decide)] at this; exact this⟩, hns, f1, hk.1, hk.2.1, hk.2.2⟩
      refine ⟨some a, l, cap, by rw [hn], by show l.length < _; omega, fun e => (by cases e), fun b e i s hs => ?_⟩
      cases e
      exact hp i s hs
theorem fieldsS : ((Try.prog.fieldsOf 65).map (fun f => (f.type, f.offset))).toList = [(3, 0), (3, 1), (9, 2), (3, 3), (40, 4), (35, 5), (40, 6), (35, 7), (63, 8), (47, 9), (47, 10), (36, 11), (3, 12), (3, 13)] := by kernel_rfl
set_option maxRecDepth 100000 in
/-- Statements in a row, of any depth: the bulk bounds it. -/
theorem rd_stmts : ∀ (fuel : Nat) (v : Value) (x : DataW H × List MemPlace) (D : Nat), DataW.trod enc Try.prog w base spare held fuel 47 [v] = some x → Rows.uptoBulk x.1 ≤ 15 * D → D ≤ 131072 →
    ∃ a l c, v = .slice a (List.length l) c ∧ StL (fun b => b < w.heap.size) D w a l := by
  intro fuel
  induction fuel using Nat.strongRecOn with
  | _ fuel ih =>
    intro v x D h hb hD
    rcases rd_slice Try.underlying47 14 (by kernel_rfl) h with rfl | ⟨a, len, cap, m, hm, rfl, hl, hi⟩
    · exact ⟨none, [], 0, rfl, by decide, fun _ => rfl, fun b e => by cases e⟩
    · obtain ⟨d, rfl⟩ : ∃ d, D = d + 1 := ⟨D - 1, by omega⟩
      obtain ⟨l, hn, hp⟩ := pick_lt (fun i (e : St) => StF (fun b => b < w.heap.size) (d + 1) w (a.add (i * 14)) e) len fun i hlt => by
        obtain ⟨cs, y, g, hc, ht, hy⟩ := hi i hlt
        obtain ⟨xs, m2, hm2, hx, _, hxl, hf⟩ := rd_struct (by kernel_rfl) fieldsS ht
        match cs, hc with
        | [c0, c1, c2, c3, c4, c5, c6, c7, c8, c9, c10, c11, c12, c13], _ =>
          match xs, hxl with
          | [y0, y1, y2, y3, y4, y5, y6, y7, y8, y9, y10, y11, y12, y13], _ =>
            have k0 : DataW.trod enc Try.prog w base spare held m2 3 [c0] = some y0 := hf 0 _ _ rfl
            have k1 : DataW.trod enc Try.prog w base spare held m2 3 [c1] = some y1 := hf 1 _ _ rfl
            have k2 : DataW.trod enc Try.prog w base spare held m2 9 [c2] = some y2 := hf 2 _ _ rfl
            have k3 : DataW.trod enc Try.prog w base spare held m2 3 [c3] = some y3 := hf 3 _ _ rfl
            have k4 : DataW.trod enc Try.prog w base spare held m2 40 [c4] = some y4 := hf 4 _ _ rfl
            have k5 : DataW.trod enc Try.prog w base spare held m2 35 [c5] = some y5 := hf 5 _ _ rfl
            have k6 : DataW.trod enc Try.prog w base spare held m2 40 [c6] = some y6 := hf 6 _ _ rfl
            have k7 : DataW.trod enc Try.prog w base spare held m2 35 [c7] = some y7 := hf 7 _ _ rfl
            have k8 : DataW.trod enc Try.prog w base spare held m2 63 [c8] = some y8 := hf 8 _ _ rfl
            have k9 : DataW.trod enc Try.prog w base spare held m2 47 [c9] = some y9 := hf 9 _ _ rfl
            have k10 : DataW.trod enc Try.prog w base spare held m2 47 [c10] = some y10 := hf 10 _ _ rfl
            have k11 : DataW.trod enc Try.prog w base spare held m2 36 [c11] = some y11 := hf 11 _ _ rfl
            have k12 : DataW.trod enc Try.prog w base spare held m2 3 [c12] = some y12 := hf 12 _ _ rfl
            have k13 : DataW.trod enc Try.prog w base spare held m2 3 [c13] = some y13 := hf 13 _ _ rfl
            simp only [hx, List.map_cons, List.map_nil, Rows.uptoBulk, Rows.uptoBulkAll] at hy
            have o0 := one_le y0.1
            have o1 := one_le y1.1
            have o2 := one_le y2.1
            have o3 := one_le y3.1
            have o4 := one_le y4.1
            have o5 := one_le y5.1
            have o6 := one_le y6.1
            have o7 := one_le y7.1
            have o8 := one_le y8.1
            have o9 := one_le y9.1
            have o10 := one_le y10.1
            have o11 := one_le y11.1
            have o12 := one_le y12.1
            have o13 := one_le y13.1
            obtain ⟨a1, es, g1, rfl, q1⟩ := rd_exprs m2 c4 y4 d k4 (by omega) (by omega)
            obtain ⟨a2, ns, g2, rfl, q2, f2⟩ := rd_texts k5 (by omega)
            obtain ⟨a3, os, g3, rfl, q3⟩ := rd_exprs m2 c6 y6 d k6 (by omega) (by omega)
            obtain ⟨a4, on, g4, rfl, q4, f4⟩ := rd_texts k7 (by omega)
            obtain ⟨a5, rs, g5, rfl, q5, f5⟩ := rd_ranges k8 (by omega)
            obtain ⟨a6, bl, g6, rfl, q6⟩ := ih m2 (by omega) c9 y9 d k9 (by omega) (by omega)
            obtain ⟨a7, el, g7, rfl, q7⟩ := ih m2 (by omega) c10 y10 d k10 (by omega) (by omega)
            obtain ⟨z0, e0, _⟩ := DataW.trod_int Try.underlying3 k0
            obtain ⟨z1, e1, _⟩ := DataW.trod_int Try.underlying3 k1
            obtain ⟨z2, e2, _⟩ := DataW.trod_string Try.underlying9 k2
            obtain ⟨z3, e3, _⟩ := DataW.trod_int Try.underlying3 k3
            obtain ⟨z11, e11, _⟩ := DataW.trod_int Try.underlying36 k11
            obtain ⟨z12, e12, _⟩ := DataW.trod_int Try.underlying3 k12
            obtain ⟨z13, e13, _⟩ := DataW.trod_int Try.underlying3 k13
            simp only [List.cons.injEq, and_true] at e0 e1 e2 e3 e11 e12 e13
            subst e0 e1 e2 e3 e11 e12 e13
            have c_0 : w.cell? (a.add (i * 14)) = some (.int .i64 z0) := by simpa using g 0 (by decide)
            refine ⟨.mk ⟨z0, z1, z2, z3, z11, z12, z13⟩ es ns os on rs bl el, by show (a.add (i * 14)).block < _; exact block_lt_of_cell c_0, a1, g1, a2, g2, a3, g3, a4, g4, a5, g5, a6, g6, a7, g7, ⟨c_0, by have := g 1 (by decide); rw [at14 a i 1 (by decide)] at this; exact this, by have := g 2 (by decide); rw [at14 a i 2 (by decide)] at this; exact this, by have := g 3 (by decide); rw [at14 a i 3 (by decide)] at this; exact this, by have := g 4 (by decide); rw [at14 a i 4 (by decide)] at this; exact this, by have := g 5 (by decide); rw [at14 a i 5 (by decide)] at this; exact this, by have := g 6 (by decide); rw [at14 a i 6 (by decide)] at this; exact this, by have := g 7 (by decide); rw [at14 a i 7 (by decide)] at this; exact this, by have := g 8 (by decide); rw [at14 a i 8 (by decide)] at this; exact this, by have := g 9 (by decide); rw [at14 a i 9 (by decide)] at this; exact this, by have := g 10 (by decide); rw [at14 a i 10 (by decide)] at this; exact this, by have := g 11 (by decide); rw [at14 a i 11 (by decide)] at this; exact this, by have := g 12 (by decide); rw [at14 a i 12 (by decide)] at this; exact this, by have := g 13 (by decide); rw [at14 a i 13 (by decide)] at this; exact this⟩, q1, q2, f2, q3, q4, f4, q5, f5, q6.1, q6.2.1, q6.2.2, q7.1, q7.2.1, q7.2.2⟩
      refine ⟨some a, l, cap, by rw [hn], by show l.length < _; omega, fun e => (by cases e), fun b e i s hs => ?_⟩
      cases e
      exact hp i s hs
end
end Go.Proofs.Ytcoeinfopfcekaa
